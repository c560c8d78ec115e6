/-
  DERIVED. CONTRACTS of the reference of layer 7 (seasons): Months, Run, Of. Written by mkseref.py.
-/
import Derived.Test.YtnmpejhljdkkgaaDoorSeMath
import Derived.Test.YtnmpejhljdkkgaaDoorMoRefsA
import Derived.Test.YtnmpejhljdkkgaaDoorNums
import Derived.Test.YtnmpejhljdkkgaaDoorRowN
import Derived.Test.YtnmpejhljdkkgaaDoorResCell
import Derived.BigQuiet
import Derived.WalkSmall
import Derived.Deep.Cut
import Derived.Laws.Rows
import Derived.Laws.Tables
import Derived.Laws.CopyOwn
import Derived.Deep.RegionHeld3
namespace Go.Proofs.YtnmpejhljdkkgaaDoor
open Go.RowKit
set_option maxRecDepth 100000

theorem refSM21 (w : World) : Calls Tryd.prog 8 #[.int .i64 21] w fun e w' => e = .returned (.tuple #[.int .i64 (fromI 21), .int .i64 (manyI 21)]) ∧ w = w' := by
  go_enter Tryd.func8, Tryd.ntmps8
  go_wp2_with fail
  go_ret2
  exact ⟨rfl, rfl⟩
theorem refSM22 (w : World) : Calls Tryd.prog 8 #[.int .i64 22] w fun e w' => e = .returned (.tuple #[.int .i64 (fromI 22), .int .i64 (manyI 22)]) ∧ w = w' := by
  go_enter Tryd.func8, Tryd.ntmps8
  go_wp2_with fail
  go_ret2
  exact ⟨rfl, rfl⟩
theorem refSM23 (w : World) : Calls Tryd.prog 8 #[.int .i64 23] w fun e w' => e = .returned (.tuple #[.int .i64 (fromI 23), .int .i64 (manyI 23)]) ∧ w = w' := by
  go_enter Tryd.func8, Tryd.ntmps8
  go_wp2_with fail
  go_ret2
  exact ⟨rfl, rfl⟩
theorem refSM24 (w : World) : Calls Tryd.prog 8 #[.int .i64 24] w fun e w' => e = .returned (.tuple #[.int .i64 (fromI 24), .int .i64 (manyI 24)]) ∧ w = w' := by
  go_enter Tryd.func8, Tryd.ntmps8
  go_wp2_with fail
  go_ret2
  exact ⟨rfl, rfl⟩
theorem refSM25 (w : World) : Calls Tryd.prog 8 #[.int .i64 25] w fun e w' => e = .returned (.tuple #[.int .i64 (fromI 25), .int .i64 (manyI 25)]) ∧ w = w' := by
  go_enter Tryd.func8, Tryd.ntmps8
  go_wp2_with fail
  go_ret2
  exact ⟨rfl, rfl⟩
theorem refSM26 (w : World) : Calls Tryd.prog 8 #[.int .i64 26] w fun e w' => e = .returned (.tuple #[.int .i64 (fromI 26), .int .i64 (manyI 26)]) ∧ w = w' := by
  go_enter Tryd.func8, Tryd.ntmps8
  go_wp2_with fail
  go_ret2
  exact ⟨rfl, rfl⟩
theorem refSM27 (w : World) : Calls Tryd.prog 8 #[.int .i64 27] w fun e w' => e = .returned (.tuple #[.int .i64 (fromI 27), .int .i64 (manyI 27)]) ∧ w = w' := by
  go_enter Tryd.func8, Tryd.ntmps8
  go_wp2_with fail
  go_ret2
  exact ⟨rfl, rfl⟩
theorem refSM28 (w : World) : Calls Tryd.prog 8 #[.int .i64 28] w fun e w' => e = .returned (.tuple #[.int .i64 (fromI 28), .int .i64 (manyI 28)]) ∧ w = w' := by
  go_enter Tryd.func8, Tryd.ntmps8
  go_wp2_with fail
  go_ret2
  exact ⟨rfl, rfl⟩
theorem refSM29 (w : World) : Calls Tryd.prog 8 #[.int .i64 29] w fun e w' => e = .returned (.tuple #[.int .i64 (fromI 29), .int .i64 (manyI 29)]) ∧ w = w' := by
  go_enter Tryd.func8, Tryd.ntmps8
  go_wp2_with fail
  go_ret2
  exact ⟨rfl, rfl⟩
theorem refSM30 (w : World) : Calls Tryd.prog 8 #[.int .i64 30] w fun e w' => e = .returned (.tuple #[.int .i64 (fromI 30), .int .i64 (manyI 30)]) ∧ w = w' := by
  go_enter Tryd.func8, Tryd.ntmps8
  go_wp2_with fail
  go_ret2
  exact ⟨rfl, rfl⟩
theorem refSM31 (w : World) : Calls Tryd.prog 8 #[.int .i64 31] w fun e w' => e = .returned (.tuple #[.int .i64 (fromI 31), .int .i64 (manyI 31)]) ∧ w = w' := by
  go_enter Tryd.func8, Tryd.ntmps8
  go_wp2_with fail
  go_ret2
  exact ⟨rfl, rfl⟩
theorem refSM32 (w : World) : Calls Tryd.prog 8 #[.int .i64 32] w fun e w' => e = .returned (.tuple #[.int .i64 (fromI 32), .int .i64 (manyI 32)]) ∧ w = w' := by
  go_enter Tryd.func8, Tryd.ntmps8
  go_wp2_with fail
  go_ret2
  exact ⟨rfl, rfl⟩
theorem refSM33 (w : World) : Calls Tryd.prog 8 #[.int .i64 33] w fun e w' => e = .returned (.tuple #[.int .i64 (fromI 33), .int .i64 (manyI 33)]) ∧ w = w' := by
  go_enter Tryd.func8, Tryd.ntmps8
  go_wp2_with fail
  go_ret2
  exact ⟨rfl, rfl⟩
theorem refSM34 (w : World) : Calls Tryd.prog 8 #[.int .i64 34] w fun e w' => e = .returned (.tuple #[.int .i64 (fromI 34), .int .i64 (manyI 34)]) ∧ w = w' := by
  go_enter Tryd.func8, Tryd.ntmps8
  go_wp2_with fail
  go_ret2
  exact ⟨rfl, rfl⟩
theorem refSM35 (w : World) : Calls Tryd.prog 8 #[.int .i64 35] w fun e w' => e = .returned (.tuple #[.int .i64 (fromI 35), .int .i64 (manyI 35)]) ∧ w = w' := by
  go_enter Tryd.func8, Tryd.ntmps8
  go_wp2_with fail
  go_ret2
  exact ⟨rfl, rfl⟩
theorem refSM36 (w : World) : Calls Tryd.prog 8 #[.int .i64 36] w fun e w' => e = .returned (.tuple #[.int .i64 (fromI 36), .int .i64 (manyI 36)]) ∧ w = w' := by
  go_enter Tryd.func8, Tryd.ntmps8
  go_wp2_with fail
  go_ret2
  exact ⟨rfl, rfl⟩
theorem refSM37 (w : World) : Calls Tryd.prog 8 #[.int .i64 37] w fun e w' => e = .returned (.tuple #[.int .i64 (fromI 37), .int .i64 (manyI 37)]) ∧ w = w' := by
  go_enter Tryd.func8, Tryd.ntmps8
  go_wp2_with fail
  go_ret2
  exact ⟨rfl, rfl⟩
theorem refSM38 (w : World) : Calls Tryd.prog 8 #[.int .i64 38] w fun e w' => e = .returned (.tuple #[.int .i64 (fromI 38), .int .i64 (manyI 38)]) ∧ w = w' := by
  go_enter Tryd.func8, Tryd.ntmps8
  go_wp2_with fail
  go_ret2
  exact ⟨rfl, rfl⟩
theorem refSM39 (w : World) : Calls Tryd.prog 8 #[.int .i64 39] w fun e w' => e = .returned (.tuple #[.int .i64 (fromI 39), .int .i64 (manyI 39)]) ∧ w = w' := by
  go_enter Tryd.func8, Tryd.ntmps8
  go_wp2_with fail
  go_ret2
  exact ⟨rfl, rfl⟩
theorem refSM40 (w : World) : Calls Tryd.prog 8 #[.int .i64 40] w fun e w' => e = .returned (.tuple #[.int .i64 (fromI 40), .int .i64 (manyI 40)]) ∧ w = w' := by
  go_enter Tryd.func8, Tryd.ntmps8
  go_wp2_with fail
  go_ret2
  exact ⟨rfl, rfl⟩
theorem refSM41 (w : World) : Calls Tryd.prog 8 #[.int .i64 41] w fun e w' => e = .returned (.tuple #[.int .i64 (fromI 41), .int .i64 (manyI 41)]) ∧ w = w' := by
  go_enter Tryd.func8, Tryd.ntmps8
  go_wp2_with fail
  go_ret2
  exact ⟨rfl, rfl⟩
theorem refSM_no {c : Int} (h : ¬ (21 ≤ c ∧ c ≤ 41)) (w : World) : Calls Tryd.prog 8 #[.int .i64 c] w fun e w' => e = .returned (.tuple #[.int .i64 0, .int .i64 0]) ∧ w = w' := by
  have t21 : (c == 21) = false := by rw [beq_eq_false_iff_ne]; omega
  have t22 : (c == 22) = false := by rw [beq_eq_false_iff_ne]; omega
  have t23 : (c == 23) = false := by rw [beq_eq_false_iff_ne]; omega
  have t24 : (c == 24) = false := by rw [beq_eq_false_iff_ne]; omega
  have t25 : (c == 25) = false := by rw [beq_eq_false_iff_ne]; omega
  have t26 : (c == 26) = false := by rw [beq_eq_false_iff_ne]; omega
  have t27 : (c == 27) = false := by rw [beq_eq_false_iff_ne]; omega
  have t28 : (c == 28) = false := by rw [beq_eq_false_iff_ne]; omega
  have t29 : (c == 29) = false := by rw [beq_eq_false_iff_ne]; omega
  have t30 : (c == 30) = false := by rw [beq_eq_false_iff_ne]; omega
  have t31 : (c == 31) = false := by rw [beq_eq_false_iff_ne]; omega
  have t32 : (c == 32) = false := by rw [beq_eq_false_iff_ne]; omega
  have t33 : (c == 33) = false := by rw [beq_eq_false_iff_ne]; omega
  have t34 : (c == 34) = false := by rw [beq_eq_false_iff_ne]; omega
  have t35 : (c == 35) = false := by rw [beq_eq_false_iff_ne]; omega
  have t36 : (c == 36) = false := by rw [beq_eq_false_iff_ne]; omega
  have t37 : (c == 37) = false := by rw [beq_eq_false_iff_ne]; omega
  have t38 : (c == 38) = false := by rw [beq_eq_false_iff_ne]; omega
  have t39 : (c == 39) = false := by rw [beq_eq_false_iff_ne]; omega
  have t40 : (c == 40) = false := by rw [beq_eq_false_iff_ne]; omega
  have t41 : (c == 41) = false := by rw [beq_eq_false_iff_ne]; omega
  clear h
  go_enter Tryd.func8, Tryd.ntmps8
  go_wp2_with fail
  go_ret2
  exact ⟨rfl, rfl⟩
theorem refSM_is {c f m : Int} (hf : fromI c = f) (hm : manyI c = m) (w : World) : Calls Tryd.prog 8 #[.int .i64 c] w fun e w' => e = .returned (.tuple #[.int .i64 f, .int .i64 m]) ∧ w = w' := by
  subst hf hm
  by_cases h : 21 ≤ c ∧ c ≤ 41
  · rcases codes h.1 h.2 with rfl | rfl | rfl | rfl | rfl | rfl | rfl | rfl | rfl | rfl | rfl | rfl | rfl | rfl | rfl | rfl | rfl | rfl | rfl | rfl | rfl
    · exact refSM21 w
    · exact refSM22 w
    · exact refSM23 w
    · exact refSM24 w
    · exact refSM25 w
    · exact refSM26 w
    · exact refSM27 w
    · exact refSM28 w
    · exact refSM29 w
    · exact refSM30 w
    · exact refSM31 w
    · exact refSM32 w
    · exact refSM33 w
    · exact refSM34 w
    · exact refSM35 w
    · exact refSM36 w
    · exact refSM37 w
    · exact refSM38 w
    · exact refSM39 w
    · exact refSM40 w
    · exact refSM41 w
  · have h0 := (many_zero c).2 h
    rw [from_zero h0, h0]
    exact refSM_no h w
theorem infoRun : (Tryd.prog.info? 32).map (·.size) = some 4 := by kernel_rfl
theorem four_one (a b : Int) : (#[Value.int .i8 0, .int .i64 a, .int .i8 0, .int .i64 b] : Array Value).all (·.oneCell') = true := by simp [Value.oneCell']
/-- a run's block -/
structure RunRow (w : World) (g : Nat) (a b : Int) (W : World) : Prop where
  below : Below w.heap.size w W
  heap : W.heap[g]? = some (.cells #[.int .i8 0, .int .i64 a, .int .i8 0, .int .i64 b] 32 (0, 0))
theorem RunRow.step {w W W' : World} {g : Nat} {a b : Int} (h : RunRow w g a b W) (hb : Below W.heap.size W W') : RunRow w g a b W' :=
  ⟨h.below.trans (hb.mono h.below.size), by rw [hb.block g (Array.getElem?_eq_some_iff.1 h.heap).1]; exact h.heap⟩
theorem runrow_new (w : World) : RunRow w w.heap.size 0 0 (w.alloc (.cells #[.int .i8 0, .int .i64 0, .int .i8 0, .int .i64 0] 32)) :=
  ⟨(Below.refl w.heap.size w).alloc (Nat.le_refl _) _, heap_alloc_new _ _⟩
set_option maxHeartbeats 1000000 in
theorem refRun_code {y c : Int} (h : manyI c = 0) (w : World) : Calls Tryd.prog 11 #[.int .i64 y, .int .i64 c] w fun x w' => x = .returned (.tuple #[.agg #[.int .i8 0, .int .i64 0, .int .i8 0, .int .i64 0], .int .i64 7]) ∧ Below w.heap.size w w' := by
  have HR := Kp.mk (runrow_new w)
  have r1 := Kp.mk (fun w => refSM_is (from_zero h) h w)
  clear h
  go_enter Tryd.func11, Tryd.ntmps11
  go_upto_region 1 with fail
  generalize w.alloc (.cells #[.int .i8 0, .int .i64 0, .int .i8 0, .int .i64 0] 32) = w0 at *
  go_wp2_with fail
  refine (r1.out _).mono ?_
  rintro e w' ⟨rfl, rfl⟩
  go_wp2_with (first
    | refine wpList_store_row' rfl 32 (.tmp 4) (.tmp 20) rfl w.heap.size #[.int .i8 0, .int .i64 0, .int .i8 0, .int .i64 0] rfl rfl 32 #[.int .i8 0, .int .i64 0, .int .i8 0, .int .i64 0] HR.out.heap infoRun rfl (four_one _ _) ?_)
  refine bodyPost_ret (results_cell_tmp (p := 4) (ty := 32) rfl _ _ w.heap.size 32 #[.int .i8 0, .int .i64 0, .int .i8 0, .int .i64 0] (0, 0) _ rfl (setRow_heap _ _ _ _ _ _ HR.out.heap) Tryd.underlying32 rfl infoRun) rfl ?_
  exact ⟨rfl, below_setRow HR.out.below (Nat.le_refl _) _⟩
set_option maxHeartbeats 1000000 in
theorem refRun_year {y c : Int} (h : ¬ manyI c = 0) (hy : isY y = false) (w : World) : Calls Tryd.prog 11 #[.int .i64 y, .int .i64 c] w fun x w' => x = .returned (.tuple #[.agg #[.int .i8 0, .int .i64 0, .int .i8 0, .int .i64 0], .int .i64 6]) ∧ Below w.heap.size w w' := by
  have HR := Kp.mk (runrow_new w)
  obtain ⟨f, hf⟩ : ∃ f, fromI c = f := ⟨_, rfl⟩
  obtain ⟨m, hm⟩ : ∃ m, manyI c = m := ⟨_, rfl⟩
  have r1 := Kp.mk (fun w => refSM_is hf hm w)
  have r2 : Kp (∀ w, Calls Tryd.prog 19 #[.int .i64 y] w fun e w' => e = .returned (.bool false) ∧ w = w') := Kp.mk (fun w => refIs_is w hy)
  have t : (m == 0) = false := by rw [beq_eq_false_iff_ne, ← hm]; exact h
  clear h hy hf hm
  go_enter Tryd.func11, Tryd.ntmps11
  go_upto_region 1 with fail
  generalize w.alloc (.cells #[.int .i8 0, .int .i64 0, .int .i8 0, .int .i64 0] 32) = w0 at *
  go_wp2_with fail
  refine (r1.out _).mono ?_
  rintro e w' ⟨rfl, rfl⟩
  go_wp2_with fail
  refine (r2.out _).mono ?_
  rintro e w' ⟨rfl, rfl⟩
  go_wp2_with (first
    | refine wpList_store_row' rfl 32 (.tmp 4) (.tmp 24) rfl w.heap.size #[.int .i8 0, .int .i64 0, .int .i8 0, .int .i64 0] rfl rfl 32 #[.int .i8 0, .int .i64 0, .int .i8 0, .int .i64 0] HR.out.heap infoRun rfl (four_one _ _) ?_)
  refine bodyPost_ret (results_cell_tmp (p := 4) (ty := 32) rfl _ _ w.heap.size 32 #[.int .i8 0, .int .i64 0, .int .i8 0, .int .i64 0] (0, 0) _ rfl (setRow_heap _ _ _ _ _ _ HR.out.heap) Tryd.underlying32 rfl infoRun) rfl ?_
  exact ⟨rfl, below_setRow HR.out.below (Nat.le_refl _) _⟩
/-- the last day of month m of year y, where m may go on into the next year -/
def endZ (y m : Int) : Int := Sm (zY y m) (zM m + 1) - 1
theorem zY_le {y m : Int} (h : m ≤ 12) : zY y m = y := by unfold zY; rw [if_pos h]
theorem zY_gt {y m : Int} (h : ¬ m ≤ 12) : zY y m = y + 1 := by unfold zY; rw [if_neg h]
theorem zM_le {m : Int} (h : m ≤ 12) : zM m = m := by unfold zM; rw [if_pos h]
theorem zM_gt {m : Int} (h : ¬ m ≤ 12) : zM m = m - 12 := by unfold zM; rw [if_neg h]
set_option maxHeartbeats 2000000 in
theorem refRun_ok {y c lo hi : Int} (h : runE y c = 0) (hlo : loR y c = lo) (hhi : hiR y c = hi) (w : World) : Calls Tryd.prog 11 #[.int .i64 y, .int .i64 c] w fun x w' => x = .returned (.tuple #[.agg #[.int .i8 0, .int .i64 lo, .int .i8 0, .int .i64 hi], .int .i64 0]) ∧ Below w.heap.size w w' := by
  have HR := Kp.mk (runrow_new w)
  obtain ⟨h0, hy, hz⟩ := runE_ok h
  obtain ⟨a1, a2, a3, a4, a5⟩ := from_in h0
  unfold loR at hlo
  obtain ⟨f, hf⟩ : ∃ f, fromI c = f := ⟨_, rfl⟩
  obtain ⟨n, hn⟩ : ∃ n, manyI c = n := ⟨_, rfl⟩
  have r1 := Kp.mk (fun w => refSM_is hf hn w)
  have hyr := (isY_iff y).1 hy
  rw [hf, hn] at a5 hz
  rw [hf] at a1 a2 hlo
  rw [hn] at a3 a4 h0
  have hhi2 : endZ y (f + n - 1) = hi := by rw [← hhi, ← hf, ← hn]; rfl
  have r2 : Kp (∀ w, Calls Tryd.prog 19 #[.int .i64 y] w fun e w' => e = .returned (.bool true) ∧ w = w') := Kp.mk (fun w => refIs_is w hy)
  have r3 := Kp.mk (fun w => refMStart_is w hy a1 a2 hlo)
  have HE := Kp.mk (fun m (h1 : 1 ≤ m) (h2 : m ≤ 12) w => refMEnd_is (v := endZ y m) w hy h1 h2 (by unfold endZ; rw [zY_le h2, zM_le h2]))
  have HZ : Kp (f + n - 1 ≤ 12 ∨ isY (y + 1) = true) := Kp.mk (by
    by_cases g : f + n - 1 ≤ 12
    · exact .inl g
    · rw [zY_gt g] at hz; exact .inr hz)
  have HH := Kp.mk hhi2
  have HYR := Kp.mk hyr
  have HA5 := Kp.mk a5
  have t : (n == 0) = false := by rw [beq_eq_false_iff_ne]; exact h0
  clear h h0 hy hz hlo hhi hhi2 hf hn hyr a5
  go_enter Tryd.func11, Tryd.ntmps11
  go_upto_region 1 with fail
  generalize w.alloc (.cells #[.int .i8 0, .int .i64 0, .int .i8 0, .int .i64 0] 32) = w0 at *
  go_wp2_with fail
  refine (r1.out _).mono ?_
  rintro e w' ⟨rfl, rfl⟩
  go_wp2_with fail
  refine (r2.out _).mono ?_
  rintro e w' ⟨rfl, rfl⟩
  go_wp2_with fail
  refine (r3.out _).mono ?_
  rintro e w' ⟨rfl, rfl⟩
  go_wp2_with fail
  go_loop [9, 10] (fun h k => ∃ j : Nat, (j : Int) ≤ n ∧ k = .int .i64 j ∧ h = .int .i64 (if j = 0 then 0 else endZ y (f + j - 1))) (fun _ k => (n - intOf k).toNat)
  case atStart => exact ⟨0, by omega, rfl, rfl⟩
  case round =>
    obtain ⟨j, hj, rfl, rfl⟩ := hrel
    obtain ⟨u, hu⟩ : ∃ u, (if j = 0 then 0 else endZ y (f + (j : Int) - 1)) = u := ⟨_, rfl⟩
    have HU := Kp.mk hu
    rw [hu]
    clear hu
    obtain ⟨v, hv⟩ : ∃ v, endZ y (f + (j : Int)) = v := ⟨_, rfl⟩
    by_cases hlt : (j : Int) < n
    · have w1 : IntKind.i64.wrap (f + (j : Int)) = f + j := IntWalk.i64_in _ (by omega)
      have w2 : IntKind.i64.wrap ((j : Int) + 1) = (j : Int) + 1 := IntWalk.i64_in _ (by omega)
      have HN : Kp ((if j + 1 = 0 then 0 else endZ y (f + ((j + 1 : Nat) : Int) - 1)) = v) := Kp.mk (by rw [if_neg (by omega), ← hv]; congr 1; omega)
      by_cases g : f + (j : Int) ≤ 12
      · have r5 := Kp.mk (fun w => HE.out (f + j) (by omega) g w)
        rw [hv] at r5
        have t2 : ¬ 12 < f + (j : Int) := by omega
        clear g hv
        go_wp2_with fail
        refine (r2.out _).mono ?_
        rintro e w' ⟨rfl, rfl⟩
        go_wp2_with fail
        refine (r5.out _).mono ?_
        rintro e w' ⟨rfl, rfl⟩
        go_wp2_with fail
        go_round
        case rel => exact ⟨j + 1, by omega, by go_num, by rw [HN.out]⟩
        case measure => simp [intOf]; omega
      · have hz1 : isY (y + 1) = true := by rcases HZ.out with q | q; omega; exact q
        have r4 : Kp (∀ w, Calls Tryd.prog 19 #[.int .i64 (y + 1)] w fun e w' => e = .returned (.bool true) ∧ w = w') := Kp.mk (fun w => refIs_is w hz1)
        have r5 := Kp.mk (fun w => refMEnd_is (v := endZ y (f + j)) (m := f + j - 12) w hz1 (by omega) (by have := HA5.out; omega) (by unfold endZ; rw [zY_gt g, zM_gt g]))
        rw [hv] at r5
        have w3 : IntKind.i64.wrap (y + 1) = y + 1 := IntWalk.i64_in _ (by have := HYR.out; omega)
        have w4 : IntKind.i64.wrap (f + (j : Int) - 12) = f + j - 12 := IntWalk.i64_in _ (by omega)
        have t2 : 12 < f + (j : Int) := by omega
        clear g hz1 hv
        go_wp2_with fail
        refine (r4.out _).mono ?_
        rintro e w' ⟨rfl, rfl⟩
        go_wp2_with fail
        refine (r5.out _).mono ?_
        rintro e w' ⟨rfl, rfl⟩
        go_wp2_with fail
        go_round
        case rel => exact ⟨j + 1, by omega, by go_num, by rw [HN.out]⟩
        case measure => simp [intOf]; omega
    · obtain rfl : n = (j : Int) := by omega
      obtain rfl : u = hi := by rw [← HU.out, if_neg (by omega)]; exact HH.out
      clear hv
      go_wp2_with (first
        | refine wpList_store_row' rfl 32 (.tmp 4) (.tmp 54) rfl w.heap.size #[.int .i8 0, .int .i64 lo, .int .i8 0, .int .i64 u] rfl rfl 32 #[.int .i8 0, .int .i64 0, .int .i8 0, .int .i64 0] HR.out.heap infoRun rfl (four_one _ _) ?_)
      refine bodyPost_ret (results_cell_tmp (p := 4) (ty := 32) rfl _ _ w.heap.size 32 #[.int .i8 0, .int .i64 lo, .int .i8 0, .int .i64 u] (0, 0) _ rfl (setRow_heap _ _ _ _ _ _ HR.out.heap) Tryd.underlying32 rfl infoRun) rfl ?_
      exact ⟨rfl, below_setRow HR.out.below (Nat.le_refl _) _⟩
set_option maxHeartbeats 1000000 in
theorem refRun_next {y c : Int} (h0 : ¬ manyI c = 0) (hy : isY y = true) (hz : isY (zY y (fromI c + manyI c - 1)) = false) (w : World) : Calls Tryd.prog 11 #[.int .i64 y, .int .i64 c] w fun x w' => x = .returned (.tuple #[.agg #[.int .i8 0, .int .i64 0, .int .i8 0, .int .i64 0], .int .i64 6]) ∧ Below w.heap.size w w' := by
  have HR := Kp.mk (runrow_new w)
  obtain ⟨a1, a2, a3, a4, a5⟩ := from_in h0
  obtain ⟨f, hf⟩ : ∃ f, fromI c = f := ⟨_, rfl⟩
  obtain ⟨n, hn⟩ : ∃ n, manyI c = n := ⟨_, rfl⟩
  have r1 := Kp.mk (fun w => refSM_is hf hn w)
  have hyr := (isY_iff y).1 hy
  rw [hf, hn] at a5 hz
  have g0 : ¬ f + n - 1 ≤ 12 := fun g => by rw [zY_le g, hy] at hz; cases hz
  rw [zY_gt g0] at hz
  obtain rfl : 12 = f := by omega
  obtain rfl : 3 = n := by omega
  obtain ⟨lo, hlo⟩ : ∃ lo, Sm y 12 = lo := ⟨_, rfl⟩
  obtain ⟨hi, hhi⟩ : ∃ hi, Sm y (12 + 1) - 1 = hi := ⟨_, rfl⟩
  have r2 : Kp (∀ w, Calls Tryd.prog 19 #[.int .i64 y] w fun e w' => e = .returned (.bool true) ∧ w = w') := Kp.mk (fun w => refIs_is w hy)
  have r3 := Kp.mk (fun w => refMStart_is w hy (show (1 : Int) ≤ 12 by omega) (show (12 : Int) ≤ 12 by omega) hlo)
  have r4 : Kp (∀ w, Calls Tryd.prog 19 #[.int .i64 (y + 1)] w fun e w' => e = .returned (.bool false) ∧ w = w') := Kp.mk (fun w => refIs_is w hz)
  have r5 := Kp.mk (fun w => refMEnd_is w hy (show (1 : Int) ≤ 12 by omega) (show (12 : Int) ≤ 12 by omega) hhi)
  have w3 : IntKind.i64.wrap (y + 1) = y + 1 := IntWalk.i64_in _ (by omega)
  clear h0 hy hz hlo hhi hf hn hyr a1 a2 a3 a4 a5 g0
  go_enter Tryd.func11, Tryd.ntmps11
  go_upto_region 1 with fail
  generalize w.alloc (.cells #[.int .i8 0, .int .i64 0, .int .i8 0, .int .i64 0] 32) = w0 at *
  go_wp2_with fail
  refine (r1.out _).mono ?_
  rintro e w' ⟨rfl, rfl⟩
  go_wp2_with fail
  refine (r2.out _).mono ?_
  rintro e w' ⟨rfl, rfl⟩
  go_wp2_with fail
  refine (r3.out _).mono ?_
  rintro e w' ⟨rfl, rfl⟩
  go_wp2_with fail
  go_loop [9, 10] (fun h k => (k = .int .i64 0 ∧ h = .int .i64 0) ∨ (k = .int .i64 1 ∧ h = .int .i64 hi)) (fun _ k => (2 - intOf k).toNat)
  case atStart => exact .inl ⟨rfl, rfl⟩
  case round =>
    rcases hrel with ⟨rfl, rfl⟩ | ⟨rfl, rfl⟩
    · go_wp2_with fail
      refine (r2.out _).mono ?_
      rintro e w' ⟨rfl, rfl⟩
      go_wp2_with fail
      refine (r5.out _).mono ?_
      rintro e w' ⟨rfl, rfl⟩
      go_wp2_with fail
      go_round
      case rel => exact .inr ⟨rfl, rfl⟩
      case measure => simp [intOf]
    · go_wp2_with fail
      refine (r4.out _).mono ?_
      rintro e w' ⟨rfl, rfl⟩
      go_wp2_with (first
        | refine wpList_store_row' rfl 32 (.tmp 4) (.tmp 46) rfl w.heap.size #[.int .i8 0, .int .i64 0, .int .i8 0, .int .i64 0] rfl rfl 32 #[.int .i8 0, .int .i64 0, .int .i8 0, .int .i64 0] HR.out.heap infoRun rfl (four_one _ _) ?_)
      refine bodyPost_ret (results_cell_tmp (p := 4) (ty := 32) rfl _ _ w.heap.size 32 #[.int .i8 0, .int .i64 0, .int .i8 0, .int .i64 0] (0, 0) _ rfl (setRow_heap _ _ _ _ _ _ HR.out.heap) Tryd.underlying32 rfl infoRun) rfl ?_
      exact ⟨rfl, below_setRow HR.out.below (Nat.le_refl _) _⟩
/-- what Run answers -/
def runR (y c : Int) : Value := if runE y c = 0 then .agg #[.int .i8 0, .int .i64 (loR y c), .int .i8 0, .int .i64 (hiR y c)] else .agg #[.int .i8 0, .int .i64 0, .int .i8 0, .int .i64 0]
theorem refRun_is {y c e : Int} {r : Value} (he : runE y c = e) (hr : runR y c = r) (w : World) :
    Calls Tryd.prog 11 #[.int .i64 y, .int .i64 c] w fun x w' => x = .returned (.tuple #[r, .int .i64 e]) ∧ Below w.heap.size w w' := by
  subst he hr
  unfold runR
  by_cases h : runE y c = 0
  · rw [if_pos h, h]; exact refRun_ok h rfl rfl w
  · rw [if_neg h]
    unfold runE at h ⊢
    by_cases h0 : manyI c = 0
    · rw [if_pos h0]; exact refRun_code h0 w
    · rw [if_neg h0] at h ⊢
      cases h1 : isY y
      · rw [if_pos rfl]; exact refRun_year h0 h1 w
      · rw [h1, if_neg (by decide)] at h
        rw [if_neg (by decide)]
        cases h2 : isY (zY y (fromI c + manyI c - 1))
        · rw [if_pos rfl]; exact refRun_next h0 h1 h2 w
        · rw [h2, if_neg (by decide)] at h; exact absurd rfl h
theorem hasR_iff (z c d : Int) : hasR z c d = true ↔ runE z c = 0 ∧ loR z c ≤ d ∧ d ≤ hiR z c := by unfold hasR; simp
/-- one run looked at: its first and last day, its error -/
structure RunIs (z c lo hi e : Int) : Prop where
  err : runE z c = e
  val : runR z c = .agg #[.int .i8 0, .int .i64 lo, .int .i8 0, .int .i64 hi]
theorem run_is (z c : Int) : ∃ lo hi e, RunIs z c lo hi e := by
  by_cases h : runE z c = 0
  · exact ⟨loR z c, hiR z c, 0, h, by unfold runR; rw [if_pos h]⟩
  · exact ⟨0, 0, runE z c, rfl, by unfold runR; rw [if_neg h]⟩
theorem RunIs.has {z c lo hi e d : Int} (h : RunIs z c lo hi e) : hasR z c d = decide (e = 0 ∧ lo ≤ d ∧ d ≤ hi) := by
  have hv := h.val
  unfold hasR
  rw [h.err]
  by_cases h0 : e = 0
  · unfold runR at hv
    rw [h.err, if_pos h0] at hv
    simp at hv
    rw [hv.1, hv.2]
  · simp [h0]
set_option maxHeartbeats 4000000 in
theorem refSOf_is {y c d : Int} (hy : isY y = true) (hd : YearHas y d) (w : World) : Calls Tryd.prog 17 #[.int .i64 d, .int .i64 c] w fun x w' => x = .returned (.tuple #[.int .i64 (ofY y c d), .bool (ofB y c d)]) ∧ Below w.heap.size w w' := by
  have hyr := (isY_iff y).1 hy
  have hdr := (year_in hd).1 hy
  obtain ⟨lo, hi, e, h1⟩ := run_is (y - 1) c
  obtain ⟨lo2, hi2, e2, h2⟩ := run_is y c
  have r1 := Kp.mk (fun w => refOf_is w (by omega) (by omega) hd hy)
  have r2 := Kp.mk (fun w => refRun_is h1.err h1.val w)
  have r3 := Kp.mk (fun w => refRun_is h2.err h2.val w)
  have w1 : IntKind.i64.wrap (y - 1) = y - 1 := IntWalk.i64_in _ (by omega)
  have w2 : IntKind.i64.wrap y = y := IntWalk.i64_in _ (by omega)
  have w3 : IntKind.i64.wrap (y + 1) = y + 1 := IntWalk.i64_in _ (by omega)
  have HV : Kp (ofY y c d = (if (e = 0 ∧ lo ≤ d ∧ d ≤ hi) then y - 1 else if (e2 = 0 ∧ lo2 ≤ d ∧ d ≤ hi2) then y else 0) ∧ ofB y c d = (decide (e = 0 ∧ lo ≤ d ∧ d ≤ hi) || decide (e2 = 0 ∧ lo2 ≤ d ∧ d ≤ hi2))) := Kp.mk (by
    unfold ofY ofB
    rw [h1.has, h2.has]
    simp)
  clear hyr hdr h1 h2 hy hd
  go_enter Tryd.func17, Tryd.ntmps17
  go_wp2_with fail
  refine (r1.out _).mono ?_
  rintro e' w' ⟨rfl, rfl⟩
  go_wp2_with fail
  have HB := Kp.mk (Below.refl w.heap.size w)
  go_loopw [8] (fun z wr => (z = .int .i64 (y - 1) ∧ Kp (Below w.heap.size w wr)) ∨ (z = .int .i64 y ∧ Kp (Below w.heap.size w wr) ∧ Kp (¬ (e = 0 ∧ lo ≤ d ∧ d ≤ hi))) ∨ (z = .int .i64 (y + 1) ∧ Kp (Below w.heap.size w wr) ∧ Kp (¬ (e = 0 ∧ lo ≤ d ∧ d ≤ hi)) ∧ Kp (¬ (e2 = 0 ∧ lo2 ≤ d ∧ d ≤ hi2)))) (fun z _ => (y + 1 - intOf z).toNat)
  case atStart => exact .inl ⟨rfl, HB⟩
  case round =>
    rcases hrel with ⟨rfl, HB⟩ | ⟨rfl, HB, HN⟩ | ⟨rfl, HB, HN, HN2⟩
    · have t1 : y - 1 ≤ y := by omega
      go_wp2_with fail
      refine (r2.out _).mono ?_
      rintro e' w1 ⟨rfl, hbl⟩
      have HB := Kp.mk (HB.out.trans (hbl.mono HB.out.size))
      clear hbl
      go_upto_region 6 with fail
      have c1 : (w1.alloc (.cells #[.int .i8 0, .int .i64 lo, .int .i8 0, .int .i64 hi] 32)).cell? ⟨w1.heap.size, 1, none⟩ = some (.int .i64 lo) := by rw [World.cell?_alloc_new]; rfl
      have c3 : (w1.alloc (.cells #[.int .i8 0, .int .i64 lo, .int .i8 0, .int .i64 hi] 32)).cell? ⟨w1.heap.size, 3, none⟩ = some (.int .i64 hi) := by rw [World.cell?_alloc_new]; rfl
      have HB := Kp.mk (HB.out.alloc HB.out.size (.cells #[.int .i8 0, .int .i64 lo, .int .i8 0, .int .i64 hi] 32))
      generalize w1.alloc (.cells #[.int .i8 0, .int .i64 lo, .int .i8 0, .int .i64 hi] 32) = v1 at *
      generalize w1.heap.size = g1 at *
      by_cases q1 : e = 0
      · have te : (e == 0) = true := by rw [beq_iff_eq]; exact q1
        by_cases q2 : lo ≤ d
        · by_cases q3 : d ≤ hi
          · have HO := Kp.mk (And.intro q1 (And.intro q2 q3))
            clear q1
            go_wp2_with fail
            go_ret2
            exact ⟨by rw [HV.out.1, HV.out.2, if_pos HO.out, decide_eq_true HO.out]; rfl, HB.out⟩
          · have HO := Kp.mk (show ¬ (e = 0 ∧ lo ≤ d ∧ d ≤ hi) from fun x => q3 x.2.2)
            clear q1
            go_wp2_with fail
            go_roundw
            case rel => exact .inr (.inl ⟨rfl, HB, HO⟩)
            case measure => simp [intOf]; omega
        · have HO := Kp.mk (show ¬ (e = 0 ∧ lo ≤ d ∧ d ≤ hi) from fun x => q2 x.2.1)
          clear q1
          go_wp2_with fail
          go_roundw
          case rel => exact .inr (.inl ⟨rfl, HB, HO⟩)
          case measure => simp [intOf]; omega
      · have te : (e == 0) = false := by rw [beq_eq_false_iff_ne]; exact q1
        have HO := Kp.mk (show ¬ (e = 0 ∧ lo ≤ d ∧ d ≤ hi) from fun x => q1 x.1)
        clear q1
        go_wp2_with fail
        go_roundw
        case rel => exact .inr (.inl ⟨rfl, HB, HO⟩)
        case measure => simp [intOf]; omega
    · have t1 : y ≤ y := Int.le_refl y
      go_wp2_with fail
      refine (r3.out _).mono ?_
      rintro e' w1 ⟨rfl, hbl⟩
      have HB := Kp.mk (HB.out.trans (hbl.mono HB.out.size))
      clear hbl
      go_upto_region 6 with fail
      have c1 : (w1.alloc (.cells #[.int .i8 0, .int .i64 lo2, .int .i8 0, .int .i64 hi2] 32)).cell? ⟨w1.heap.size, 1, none⟩ = some (.int .i64 lo2) := by rw [World.cell?_alloc_new]; rfl
      have c3 : (w1.alloc (.cells #[.int .i8 0, .int .i64 lo2, .int .i8 0, .int .i64 hi2] 32)).cell? ⟨w1.heap.size, 3, none⟩ = some (.int .i64 hi2) := by rw [World.cell?_alloc_new]; rfl
      have HB := Kp.mk (HB.out.alloc HB.out.size (.cells #[.int .i8 0, .int .i64 lo2, .int .i8 0, .int .i64 hi2] 32))
      generalize w1.alloc (.cells #[.int .i8 0, .int .i64 lo2, .int .i8 0, .int .i64 hi2] 32) = v1 at *
      generalize w1.heap.size = g1 at *
      by_cases q1 : e2 = 0
      · have te : (e2 == 0) = true := by rw [beq_iff_eq]; exact q1
        by_cases q2 : lo2 ≤ d
        · by_cases q3 : d ≤ hi2
          · have HO := Kp.mk (And.intro q1 (And.intro q2 q3))
            clear q1
            go_wp2_with fail
            go_ret2
            exact ⟨by rw [HV.out.1, HV.out.2, if_neg HN.out, if_pos HO.out, decide_eq_false HN.out, decide_eq_true HO.out]; rfl, HB.out⟩
          · have HO := Kp.mk (show ¬ (e2 = 0 ∧ lo2 ≤ d ∧ d ≤ hi2) from fun x => q3 x.2.2)
            clear q1
            go_wp2_with fail
            go_roundw
            case rel => exact .inr (.inr ⟨rfl, HB, HN, HO⟩)
            case measure => simp [intOf]; omega
        · have HO := Kp.mk (show ¬ (e2 = 0 ∧ lo2 ≤ d ∧ d ≤ hi2) from fun x => q2 x.2.1)
          clear q1
          go_wp2_with fail
          go_roundw
          case rel => exact .inr (.inr ⟨rfl, HB, HN, HO⟩)
          case measure => simp [intOf]; omega
      · have te : (e2 == 0) = false := by rw [beq_eq_false_iff_ne]; exact q1
        have HO := Kp.mk (show ¬ (e2 = 0 ∧ lo2 ≤ d ∧ d ≤ hi2) from fun x => q1 x.1)
        clear q1
        go_wp2_with fail
        go_roundw
        case rel => exact .inr (.inr ⟨rfl, HB, HN, HO⟩)
        case measure => simp [intOf]; omega
    · have t1 : ¬ y + 1 ≤ y := by omega
      go_wp2_with fail
      go_ret2
      exact ⟨by rw [HV.out.1, HV.out.2, if_neg HN.out, if_neg HN2.out, decide_eq_false HN.out, decide_eq_false HN2.out]; rfl, HB.out⟩
end Go.Proofs.YtnmpejhljdkkgaaDoor
