/-
 DERIVED. CONTRACTS of package ends (the developers' functions): Compare, Min, Max, step, Next, Prev. Written by mken8.py.
-/
import Derived.Test.YteddfolhpoikcaaGreatDoorPEnDev
namespace Go.Proofs.YteddfolhpoikcaaGreatDoor
open Go.RowKit
set_option maxRecDepth 100000

set_option maxHeartbeats 1000000 in
theorem dCmp_is {f d g e v : Int} (hv : cmpE f d g e = v) (w : World) :
 Calls Tryz.prog 39 #[.agg #[.int .i8 f, .int .i64 d], .agg #[.int .i8 g, .int .i64 e]] w fun x w' => x = .returned (.int .i64 v) ∧ Below w.heap.size w w' := by
 have HA := Kp.mk (eb_two w f d g e).1
 have HC := Kp.mk (eb_two w f d g e).2
 unfold cmpE at hv
 rcases cmpI_cases f g with ⟨h, h1⟩ | ⟨h, h1⟩ | ⟨h, h1⟩
 ·rw [h1, if_neg (by decide)] at hv
  subst hv
  have t1 : (f == g) = false := by rw [beq_eq_false_iff_ne]; omega
  clear h1
  go_enter Tryz.func39, Tryz.ntmps39
  go_upto_region 1 with fail
  generalize (w.alloc (.cells #[.int .i8 f, .int .i64 d] 24)).alloc (.cells #[.int .i8 g, .int .i64 e] 24) = w0 at *
  have k0 := HA.out.c0
  have k1 := HA.out.c1
  have k2 := HC.out.c0
  have k3 := HC.out.c1
  go_wp2_with fail
  go_ret
  exact ⟨rfl, HA.out.below⟩
 ·rw [h1, if_pos rfl] at hv
  subst h
  clear h1
  rcases cmpI_cases d e with ⟨h, h1⟩ | ⟨h, h1⟩ | ⟨h, h1⟩
  ·rw [h1] at hv
   subst hv
   have t1 : (d == e) = false := by rw [beq_eq_false_iff_ne]; omega
   clear h1
   go_enter Tryz.func39, Tryz.ntmps39
   go_upto_region 1 with fail
   generalize (w.alloc (.cells #[.int .i8 f, .int .i64 d] 24)).alloc (.cells #[.int .i8 f, .int .i64 e] 24) = w0 at *
   have k0 := HA.out.c0
   have k1 := HA.out.c1
   have k2 := HC.out.c0
   have k3 := HC.out.c1
   go_wp2_with fail
   go_ret
   exact ⟨rfl, HA.out.below⟩
  ·rw [h1] at hv
   subst hv
   subst h
   clear h1
   go_enter Tryz.func39, Tryz.ntmps39
   go_upto_region 1 with fail
   generalize (w.alloc (.cells #[.int .i8 f, .int .i64 d] 24)).alloc (.cells #[.int .i8 f, .int .i64 d] 24) = w0 at *
   have k0 := HA.out.c0
   have k1 := HA.out.c1
   have k2 := HC.out.c0
   have k3 := HC.out.c1
   go_wp2_with fail
   go_ret
   exact ⟨rfl, HA.out.below⟩
  ·rw [h1] at hv
   subst hv
   have t1 : (d == e) = false := by rw [beq_eq_false_iff_ne]; omega
   have t2 : ¬ d < e := by omega
   clear h1
   go_enter Tryz.func39, Tryz.ntmps39
   go_upto_region 1 with fail
   generalize (w.alloc (.cells #[.int .i8 f, .int .i64 d] 24)).alloc (.cells #[.int .i8 f, .int .i64 e] 24) = w0 at *
   have k0 := HA.out.c0
   have k1 := HA.out.c1
   have k2 := HC.out.c0
   have k3 := HC.out.c1
   go_wp2_with fail
   go_ret
   exact ⟨rfl, HA.out.below⟩
 ·rw [h1, if_neg (by decide)] at hv
  subst hv
  have t1 : (f == g) = false := by rw [beq_eq_false_iff_ne]; omega
  have t2 : ¬ f < g := by omega
  clear h1 h
  go_enter Tryz.func39, Tryz.ntmps39
  go_upto_region 1 with fail
  generalize (w.alloc (.cells #[.int .i8 f, .int .i64 d] 24)).alloc (.cells #[.int .i8 g, .int .i64 e] 24) = w0 at *
  have k0 := HA.out.c0
  have k1 := HA.out.c1
  have k2 := HC.out.c0
  have k3 := HC.out.c1
  go_wp2_with fail
  go_ret
  exact ⟨rfl, HA.out.below⟩
set_option maxHeartbeats 1000000 in
theorem dMin_lt {f d g e : Int} (hv : cmpE f d g e = -1) (w : World) :
 Calls Tryz.prog 43 #[.agg #[.int .i8 f, .int .i64 d], .agg #[.int .i8 g, .int .i64 e]] w fun x w' => x = .returned (.agg #[.int .i8 f, .int .i64 d]) ∧ Below w.heap.size w w' := by
 have H0 : Below ((w.alloc (.cells #[.int .i8 f, .int .i64 d] 24)).alloc (.cells #[.int .i8 g, .int .i64 e] 24)).heap.size ((w.alloc (.cells #[.int .i8 f, .int .i64 d] 24)).alloc (.cells #[.int .i8 g, .int .i64 e] 24)) (((w.alloc (.cells #[.int .i8 f, .int .i64 d] 24)).alloc (.cells #[.int .i8 g, .int .i64 e] 24)).alloc (.cells #[.int .i8 0, .int .i64 0] 24)) := (Below.refl _ _).alloc (Nat.le_refl _) _
 have HA := Kp.mk ((eb_two w f d g e).1.step H0)
 have HC := Kp.mk ((eb_two w f d g e).2.step H0)
 have HR : Kp (ERow w (w.heap.size + 1 + 1) 0 0 (((w.alloc (.cells #[.int .i8 f, .int .i64 d] 24)).alloc (.cells #[.int .i8 g, .int .i64 e] 24)).alloc (.cells #[.int .i8 0, .int .i64 0] 24))) := Kp.mk (by
  have := erow_new 0 0 (eb_two w f d g e).1.below
  rw [World.size_alloc, World.size_alloc] at this
  exact this)
 clear H0
 have r1 := Kp.mk (fun w => dCmp_is hv w)
 clear hv
 go_enter Tryz.func43, Tryz.ntmps43
 go_upto_region 1 with fail
 generalize ((w.alloc (.cells #[.int .i8 f, .int .i64 d] 24)).alloc (.cells #[.int .i8 g, .int .i64 e] 24)).alloc (.cells #[.int .i8 0, .int .i64 0] 24) = w0 at *
 have k0 := HA.out.c0
 have k1 := HA.out.c1
 have k2 := HC.out.c0
 have k3 := HC.out.c1
 go_wp2_with fail
 refine (r1.out _).mono ?_
 rintro e' w1 ⟨rfl, hbl⟩
 have HA := Kp.mk (HA.out.step hbl)
 have HC := Kp.mk (HC.out.step hbl)
 have HR := Kp.mk (HR.out.step hbl)
 clear hbl k0 k1 k2 k3
 have k0 := HA.out.c0
 have k1 := HA.out.c1
 have k2 := HC.out.c0
 have k3 := HC.out.c1
 go_wp2_with (first
  | refine wpList_store_row' rfl 24 (.tmp 4) (.tmp 9) rfl (w.heap.size + 1 + 1) #[.int .i8 f, .int .i64 d] rfl rfl 24 #[.int .i8 0, .int .i64 0] HR.out.heap infoEnd rfl (two_one _ _) ?_)
 refine bodyPost_ret (results_one_cell (p := 4) (ty := 24) rfl _ _ (w.heap.size + 1 + 1) 24 #[.int .i8 f, .int .i64 d] (0, 0) _ rfl (setRow_heap _ _ _ _ _ _ HR.out.heap) Tryz.underlying24 rfl infoEnd) rfl ?_
 exact ⟨rfl, below_setRow HR.out.below HR.out.base _⟩
set_option maxHeartbeats 1000000 in
theorem dMin_ge {f d g e : Int} {v : Int} (hv : cmpE f d g e = v) (h : ¬ v < 0) (w : World) :
 Calls Tryz.prog 43 #[.agg #[.int .i8 f, .int .i64 d], .agg #[.int .i8 g, .int .i64 e]] w fun x w' => x = .returned (.agg #[.int .i8 g, .int .i64 e]) ∧ Below w.heap.size w w' := by
 have H0 : Below ((w.alloc (.cells #[.int .i8 f, .int .i64 d] 24)).alloc (.cells #[.int .i8 g, .int .i64 e] 24)).heap.size ((w.alloc (.cells #[.int .i8 f, .int .i64 d] 24)).alloc (.cells #[.int .i8 g, .int .i64 e] 24)) (((w.alloc (.cells #[.int .i8 f, .int .i64 d] 24)).alloc (.cells #[.int .i8 g, .int .i64 e] 24)).alloc (.cells #[.int .i8 0, .int .i64 0] 24)) := (Below.refl _ _).alloc (Nat.le_refl _) _
 have HA := Kp.mk ((eb_two w f d g e).1.step H0)
 have HC := Kp.mk ((eb_two w f d g e).2.step H0)
 have HR : Kp (ERow w (w.heap.size + 1 + 1) 0 0 (((w.alloc (.cells #[.int .i8 f, .int .i64 d] 24)).alloc (.cells #[.int .i8 g, .int .i64 e] 24)).alloc (.cells #[.int .i8 0, .int .i64 0] 24))) := Kp.mk (by
  have := erow_new 0 0 (eb_two w f d g e).1.below
  rw [World.size_alloc, World.size_alloc] at this
  exact this)
 clear H0
 have r1 := Kp.mk (fun w => dCmp_is hv w)
 clear hv
 go_enter Tryz.func43, Tryz.ntmps43
 go_upto_region 1 with fail
 generalize ((w.alloc (.cells #[.int .i8 f, .int .i64 d] 24)).alloc (.cells #[.int .i8 g, .int .i64 e] 24)).alloc (.cells #[.int .i8 0, .int .i64 0] 24) = w0 at *
 have k0 := HA.out.c0
 have k1 := HA.out.c1
 have k2 := HC.out.c0
 have k3 := HC.out.c1
 go_wp2_with fail
 refine (r1.out _).mono ?_
 rintro e' w1 ⟨rfl, hbl⟩
 have HA := Kp.mk (HA.out.step hbl)
 have HC := Kp.mk (HC.out.step hbl)
 have HR := Kp.mk (HR.out.step hbl)
 clear hbl k0 k1 k2 k3
 have k0 := HA.out.c0
 have k1 := HA.out.c1
 have k2 := HC.out.c0
 have k3 := HC.out.c1
 go_wp2_with (first
  | refine wpList_store_row' rfl 24 (.tmp 4) (.tmp 10) rfl (w.heap.size + 1 + 1) #[.int .i8 g, .int .i64 e] rfl rfl 24 #[.int .i8 0, .int .i64 0] HR.out.heap infoEnd rfl (two_one _ _) ?_)
 refine bodyPost_ret (results_one_cell (p := 4) (ty := 24) rfl _ _ (w.heap.size + 1 + 1) 24 #[.int .i8 g, .int .i64 e] (0, 0) _ rfl (setRow_heap _ _ _ _ _ _ HR.out.heap) Tryz.underlying24 rfl infoEnd) rfl ?_
 exact ⟨rfl, below_setRow HR.out.below HR.out.base _⟩
set_option maxHeartbeats 1000000 in
theorem dMax_gt {f d g e : Int} (hv : cmpE f d g e = 1) (w : World) :
 Calls Tryz.prog 44 #[.agg #[.int .i8 f, .int .i64 d], .agg #[.int .i8 g, .int .i64 e]] w fun x w' => x = .returned (.agg #[.int .i8 f, .int .i64 d]) ∧ Below w.heap.size w w' := by
 have H0 : Below ((w.alloc (.cells #[.int .i8 f, .int .i64 d] 24)).alloc (.cells #[.int .i8 g, .int .i64 e] 24)).heap.size ((w.alloc (.cells #[.int .i8 f, .int .i64 d] 24)).alloc (.cells #[.int .i8 g, .int .i64 e] 24)) (((w.alloc (.cells #[.int .i8 f, .int .i64 d] 24)).alloc (.cells #[.int .i8 g, .int .i64 e] 24)).alloc (.cells #[.int .i8 0, .int .i64 0] 24)) := (Below.refl _ _).alloc (Nat.le_refl _) _
 have HA := Kp.mk ((eb_two w f d g e).1.step H0)
 have HC := Kp.mk ((eb_two w f d g e).2.step H0)
 have HR : Kp (ERow w (w.heap.size + 1 + 1) 0 0 (((w.alloc (.cells #[.int .i8 f, .int .i64 d] 24)).alloc (.cells #[.int .i8 g, .int .i64 e] 24)).alloc (.cells #[.int .i8 0, .int .i64 0] 24))) := Kp.mk (by
  have := erow_new 0 0 (eb_two w f d g e).1.below
  rw [World.size_alloc, World.size_alloc] at this
  exact this)
 clear H0
 have r1 := Kp.mk (fun w => dCmp_is hv w)
 clear hv
 go_enter Tryz.func44, Tryz.ntmps44
 go_upto_region 1 with fail
 generalize ((w.alloc (.cells #[.int .i8 f, .int .i64 d] 24)).alloc (.cells #[.int .i8 g, .int .i64 e] 24)).alloc (.cells #[.int .i8 0, .int .i64 0] 24) = w0 at *
 have k0 := HA.out.c0
 have k1 := HA.out.c1
 have k2 := HC.out.c0
 have k3 := HC.out.c1
 go_wp2_with fail
 refine (r1.out _).mono ?_
 rintro e' w1 ⟨rfl, hbl⟩
 have HA := Kp.mk (HA.out.step hbl)
 have HC := Kp.mk (HC.out.step hbl)
 have HR := Kp.mk (HR.out.step hbl)
 clear hbl k0 k1 k2 k3
 have k0 := HA.out.c0
 have k1 := HA.out.c1
 have k2 := HC.out.c0
 have k3 := HC.out.c1
 go_wp2_with (first
  | refine wpList_store_row' rfl 24 (.tmp 4) (.tmp 9) rfl (w.heap.size + 1 + 1) #[.int .i8 f, .int .i64 d] rfl rfl 24 #[.int .i8 0, .int .i64 0] HR.out.heap infoEnd rfl (two_one _ _) ?_)
 refine bodyPost_ret (results_one_cell (p := 4) (ty := 24) rfl _ _ (w.heap.size + 1 + 1) 24 #[.int .i8 f, .int .i64 d] (0, 0) _ rfl (setRow_heap _ _ _ _ _ _ HR.out.heap) Tryz.underlying24 rfl infoEnd) rfl ?_
 exact ⟨rfl, below_setRow HR.out.below HR.out.base _⟩
set_option maxHeartbeats 1000000 in
theorem dMax_le {f d g e : Int} {v : Int} (hv : cmpE f d g e = v) (h : ¬ 0 < v) (w : World) :
 Calls Tryz.prog 44 #[.agg #[.int .i8 f, .int .i64 d], .agg #[.int .i8 g, .int .i64 e]] w fun x w' => x = .returned (.agg #[.int .i8 g, .int .i64 e]) ∧ Below w.heap.size w w' := by
 have H0 : Below ((w.alloc (.cells #[.int .i8 f, .int .i64 d] 24)).alloc (.cells #[.int .i8 g, .int .i64 e] 24)).heap.size ((w.alloc (.cells #[.int .i8 f, .int .i64 d] 24)).alloc (.cells #[.int .i8 g, .int .i64 e] 24)) (((w.alloc (.cells #[.int .i8 f, .int .i64 d] 24)).alloc (.cells #[.int .i8 g, .int .i64 e] 24)).alloc (.cells #[.int .i8 0, .int .i64 0] 24)) := (Below.refl _ _).alloc (Nat.le_refl _) _
 have HA := Kp.mk ((eb_two w f d g e).1.step H0)
 have HC := Kp.mk ((eb_two w f d g e).2.step H0)
 have HR : Kp (ERow w (w.heap.size + 1 + 1) 0 0 (((w.alloc (.cells #[.int .i8 f, .int .i64 d] 24)).alloc (.cells #[.int .i8 g, .int .i64 e] 24)).alloc (.cells #[.int .i8 0, .int .i64 0] 24))) := Kp.mk (by
  have := erow_new 0 0 (eb_two w f d g e).1.below
  rw [World.size_alloc, World.size_alloc] at this
  exact this)
 clear H0
 have r1 := Kp.mk (fun w => dCmp_is hv w)
 clear hv
 go_enter Tryz.func44, Tryz.ntmps44
 go_upto_region 1 with fail
 generalize ((w.alloc (.cells #[.int .i8 f, .int .i64 d] 24)).alloc (.cells #[.int .i8 g, .int .i64 e] 24)).alloc (.cells #[.int .i8 0, .int .i64 0] 24) = w0 at *
 have k0 := HA.out.c0
 have k1 := HA.out.c1
 have k2 := HC.out.c0
 have k3 := HC.out.c1
 go_wp2_with fail
 refine (r1.out _).mono ?_
 rintro e' w1 ⟨rfl, hbl⟩
 have HA := Kp.mk (HA.out.step hbl)
 have HC := Kp.mk (HC.out.step hbl)
 have HR := Kp.mk (HR.out.step hbl)
 clear hbl k0 k1 k2 k3
 have k0 := HA.out.c0
 have k1 := HA.out.c1
 have k2 := HC.out.c0
 have k3 := HC.out.c1
 go_wp2_with (first
  | refine wpList_store_row' rfl 24 (.tmp 4) (.tmp 10) rfl (w.heap.size + 1 + 1) #[.int .i8 g, .int .i64 e] rfl rfl 24 #[.int .i8 0, .int .i64 0] HR.out.heap infoEnd rfl (two_one _ _) ?_)
 refine bodyPost_ret (results_one_cell (p := 4) (ty := 24) rfl _ _ (w.heap.size + 1 + 1) 24 #[.int .i8 g, .int .i64 e] (0, 0) _ rfl (setRow_heap _ _ _ _ _ _ HR.out.heap) Tryz.underlying24 rfl infoEnd) rfl ?_
 exact ⟨rfl, below_setRow HR.out.below HR.out.base _⟩
set_option maxHeartbeats 1000000 in
theorem dStep_bad {f d k c : Int} (hc : chkE f d = c) (h0 : ¬ c = 0) (w : World) (hL : LaidEn w) :
 Calls Tryz.prog 83 #[.agg #[.int .i8 f, .int .i64 d], .int .i64 k] w fun x w' => x = .returned (.tuple #[.agg #[.int .i8 0, .int .i64 0], .int .i64 c]) ∧ Below w.heap.size w w' := by
 have HA := Kp.mk (eb_two w f d 0 0).1
 have HR : Kp (ERow w (w.heap.size + 1) 0 0 ((w.alloc (.cells #[.int .i8 f, .int .i64 d] 24)).alloc (.cells #[.int .i8 0, .int .i64 0] 24))) := Kp.mk (by
  have := erow_new 0 0 (eb_new f d 24 (Below.refl w.heap.size w)).below
  rw [World.size_alloc] at this
  exact this)
 have r1 := Kp.mk (fun v (h : Below w.heap.size w v) => dChk_is hc v (hL.below h))
 clear hc hL
 go_enter Tryz.func83, Tryz.ntmps83
 go_upto_region 1 with fail
 generalize (w.alloc (.cells #[.int .i8 f, .int .i64 d] 24)).alloc (.cells #[.int .i8 0, .int .i64 0] 24) = w0 at *
 have k0 := HA.out.c0
 have k1 := HA.out.c1
 go_wp2_with fail
 refine (r1.out _ HR.out.below).mono ?_
 rintro e' w1 ⟨rfl, hbl⟩
 have HA := Kp.mk (HA.out.step hbl)
 have HR := Kp.mk (HR.out.step hbl)
 clear hbl k0 k1
 have k0 := HA.out.c0
 have k1 := HA.out.c1
 go_wp2_with (first
  | refine wpList_store_row' rfl 24 (.tmp 4) (.tmp 13) rfl (w.heap.size + 1) #[.int .i8 0, .int .i64 0] rfl rfl 24 #[.int .i8 0, .int .i64 0] HR.out.heap infoEnd rfl (two_one _ _) ?_)
 refine bodyPost_ret (results_cell_tmp (p := 4) (ty := 24) rfl _ _ (w.heap.size + 1) 24 #[.int .i8 0, .int .i64 0] (0, 0) _ rfl (setRow_heap _ _ _ _ _ _ HR.out.heap) Tryz.underlying24 rfl infoEnd) rfl ?_
 exact ⟨rfl, below_setRow HR.out.below HR.out.base _⟩
set_option maxHeartbeats 1000000 in
theorem dStep_inf {f d k : Int} (hc : chkE f d = 0) (h0 : ¬ f = 0) (w : World) (hL : LaidEn w) :
 Calls Tryz.prog 83 #[.agg #[.int .i8 f, .int .i64 d], .int .i64 k] w fun x w' => x = .returned (.tuple #[.agg #[.int .i8 f, .int .i64 d], .int .i64 0]) ∧ Below w.heap.size w w' := by
 have HA := Kp.mk (eb_two w f d 0 0).1
 have HR : Kp (ERow w (w.heap.size + 1) 0 0 ((w.alloc (.cells #[.int .i8 f, .int .i64 d] 24)).alloc (.cells #[.int .i8 0, .int .i64 0] 24))) := Kp.mk (by
  have := erow_new 0 0 (eb_new f d 24 (Below.refl w.heap.size w)).below
  rw [World.size_alloc] at this
  exact this)
 have hi : isInfB f d = true := decide_eq_true (by have := chkE_zero.1 hc; omega)
 have r1 := Kp.mk (fun v (h : Below w.heap.size w v) => dChk_is hc v (hL.below h))
 have r2 := Kp.mk (fun v (h : Below w.heap.size w v) => dInf_is hi v (hL.below h))
 clear hc hL hi h0
 go_enter Tryz.func83, Tryz.ntmps83
 go_upto_region 1 with fail
 generalize (w.alloc (.cells #[.int .i8 f, .int .i64 d] 24)).alloc (.cells #[.int .i8 0, .int .i64 0] 24) = w0 at *
 have k0 := HA.out.c0
 have k1 := HA.out.c1
 go_wp2_with fail
 refine (r1.out _ HR.out.below).mono ?_
 rintro e' w1 ⟨rfl, hbl⟩
 have HA := Kp.mk (HA.out.step hbl)
 have HR := Kp.mk (HR.out.step hbl)
 clear hbl k0 k1
 have k0 := HA.out.c0
 have k1 := HA.out.c1
 go_wp2_with fail
 refine (r2.out _ HR.out.below).mono ?_
 rintro e' w2 ⟨rfl, hbl⟩
 have HA := Kp.mk (HA.out.step hbl)
 have HR := Kp.mk (HR.out.step hbl)
 clear hbl k0 k1
 have k0 := HA.out.c0
 have k1 := HA.out.c1
 go_wp2_with (first
  | refine wpList_store_row' rfl 24 (.tmp 4) (.tmp 17) rfl (w.heap.size + 1) #[.int .i8 f, .int .i64 d] rfl rfl 24 #[.int .i8 0, .int .i64 0] HR.out.heap infoEnd rfl (two_one _ _) ?_)
 refine bodyPost_ret (results_cell_tmp (p := 4) (ty := 24) rfl _ _ (w.heap.size + 1) 24 #[.int .i8 f, .int .i64 d] (0, 0) _ rfl (setRow_heap _ _ _ _ _ _ HR.out.heap) Tryz.underlying24 rfl infoEnd) rfl ?_
 exact ⟨rfl, below_setRow HR.out.below HR.out.base _⟩
set_option maxHeartbeats 1000000 in
theorem dStep_over {d k : Int} (d0 : -9223372036854775808 ≤ d) (d1 : d ≤ 9223372036854775807) (k0 : -9223372036854775808 ≤ k) (k1 : k ≤ 9223372036854775807) (h : ¬ (-9223372036854775808 ≤ d + k ∧ d + k ≤ 9223372036854775807)) (w : World) (hL : LaidEn w) :
 Calls Tryz.prog 83 #[.agg #[.int .i8 0, .int .i64 d], .int .i64 k] w fun x w' => x = .returned (.tuple #[.agg #[.int .i8 0, .int .i64 0], .int .i64 15]) ∧ Below w.heap.size w w' := by
 have HA := Kp.mk (eb_two w 0 d 0 0).1
 have HR : Kp (ERow w (w.heap.size + 1) 0 0 ((w.alloc (.cells #[.int .i8 0, .int .i64 d] 24)).alloc (.cells #[.int .i8 0, .int .i64 0] 24))) := Kp.mk (by
  have := erow_new 0 0 (eb_new 0 d 24 (Below.refl w.heap.size w)).below
  rw [World.size_alloc] at this
  exact this)
 have r1 := Kp.mk (fun v (h : Below w.heap.size w v) => dChk_is (chkE_zero.2 (.inl rfl)) v (hL.below h) (f := 0) (d := d))
 have r2 := Kp.mk (fun v (h : Below w.heap.size w v) => dInf_is (f := 0) (d := d) (b := false) (decide_eq_false (by omega)) v (hL.below h))
 have r3 := Kp.mk (fun v (_ : Below w.heap.size w v) => add_out d k v d0 d1 k0 k1 h)
 clear hL d0 d1 k0 k1 h
 go_enter Tryz.func83, Tryz.ntmps83
 go_upto_region 1 with fail
 generalize (w.alloc (.cells #[.int .i8 0, .int .i64 d] 24)).alloc (.cells #[.int .i8 0, .int .i64 0] 24) = w0 at *
 have k0 := HA.out.c0
 have k1 := HA.out.c1
 go_wp2_with fail
 refine (r1.out _ HR.out.below).mono ?_
 rintro e' w1 ⟨rfl, hbl⟩
 have HA := Kp.mk (HA.out.step hbl)
 have HR := Kp.mk (HR.out.step hbl)
 clear hbl k0 k1
 have k0 := HA.out.c0
 have k1 := HA.out.c1
 go_wp2_with fail
 refine (r2.out _ HR.out.below).mono ?_
 rintro e' w2 ⟨rfl, hbl⟩
 have HA := Kp.mk (HA.out.step hbl)
 have HR := Kp.mk (HR.out.step hbl)
 clear hbl k0 k1
 have k0 := HA.out.c0
 have k1 := HA.out.c1
 go_wp2_with fail
 refine (r3.out _ HR.out.below).mono ?_
 rintro e' w3 ⟨rfl, hbl⟩
 have HA := Kp.mk (HA.out.step hbl)
 have HR := Kp.mk (HR.out.step hbl)
 clear hbl k0 k1
 have k0 := HA.out.c0
 have k1 := HA.out.c1
 go_wp2_with (first
  | refine wpList_store_row' rfl 24 (.tmp 4) (.tmp 27) rfl (w.heap.size + 1) #[.int .i8 0, .int .i64 0] rfl rfl 24 #[.int .i8 0, .int .i64 0] HR.out.heap infoEnd rfl (two_one _ _) ?_)
 refine bodyPost_ret (results_cell_tmp (p := 4) (ty := 24) rfl _ _ (w.heap.size + 1) 24 #[.int .i8 0, .int .i64 0] (0, 0) _ rfl (setRow_heap _ _ _ _ _ _ HR.out.heap) Tryz.underlying24 rfl infoEnd) rfl ?_
 exact ⟨rfl, below_setRow HR.out.below HR.out.base _⟩
set_option maxHeartbeats 1000000 in
theorem dStep_day {d k : Int} (d0 : -9223372036854775808 ≤ d) (d1 : d ≤ 9223372036854775807) (k0 : -9223372036854775808 ≤ k) (k1 : k ≤ 9223372036854775807) (h : -9223372036854775808 ≤ d + k) (h' : d + k ≤ 9223372036854775807) (w : World) (hL : LaidEn w) :
 Calls Tryz.prog 83 #[.agg #[.int .i8 0, .int .i64 d], .int .i64 k] w fun x w' => x = .returned (.tuple #[.agg #[.int .i8 0, .int .i64 (d + k)], .int .i64 0]) ∧ Below w.heap.size w w' := by
 have HA := Kp.mk (eb_two w 0 d 0 0).1
 have HR : Kp (ERow w (w.heap.size + 1) 0 0 ((w.alloc (.cells #[.int .i8 0, .int .i64 d] 24)).alloc (.cells #[.int .i8 0, .int .i64 0] 24))) := Kp.mk (by
  have := erow_new 0 0 (eb_new 0 d 24 (Below.refl w.heap.size w)).below
  rw [World.size_alloc] at this
  exact this)
 have r1 := Kp.mk (fun v (h : Below w.heap.size w v) => dChk_is (chkE_zero.2 (.inl rfl)) v (hL.below h) (f := 0) (d := d))
 have r2 := Kp.mk (fun v (h : Below w.heap.size w v) => dInf_is (f := 0) (d := d) (b := false) (decide_eq_false (by omega)) v (hL.below h))
 have r3 := Kp.mk (fun v (_ : Below w.heap.size w v) => add_in d k v h h' d0 d1 k0 k1)
 have r4 := Kp.mk (fun v (_ : Below w.heap.size w v) => dOf_is (d + k) v)
 clear hL d0 d1 k0 k1 h h'
 go_enter Tryz.func83, Tryz.ntmps83
 go_upto_region 1 with fail
 generalize (w.alloc (.cells #[.int .i8 0, .int .i64 d] 24)).alloc (.cells #[.int .i8 0, .int .i64 0] 24) = w0 at *
 have k0 := HA.out.c0
 have k1 := HA.out.c1
 go_wp2_with fail
 refine (r1.out _ HR.out.below).mono ?_
 rintro e' w1 ⟨rfl, hbl⟩
 have HA := Kp.mk (HA.out.step hbl)
 have HR := Kp.mk (HR.out.step hbl)
 clear hbl k0 k1
 have k0 := HA.out.c0
 have k1 := HA.out.c1
 go_wp2_with fail
 refine (r2.out _ HR.out.below).mono ?_
 rintro e' w2 ⟨rfl, hbl⟩
 have HA := Kp.mk (HA.out.step hbl)
 have HR := Kp.mk (HR.out.step hbl)
 clear hbl k0 k1
 have k0 := HA.out.c0
 have k1 := HA.out.c1
 go_wp2_with fail
 refine (r3.out _ HR.out.below).mono ?_
 rintro e' w3 ⟨rfl, hbl⟩
 have HA := Kp.mk (HA.out.step hbl)
 have HR := Kp.mk (HR.out.step hbl)
 clear hbl k0 k1
 have k0 := HA.out.c0
 have k1 := HA.out.c1
 go_wp2_with fail
 refine (r4.out _ HR.out.below).mono ?_
 rintro e' w4 ⟨rfl, hbl⟩
 have HA := Kp.mk (HA.out.step hbl)
 have HR := Kp.mk (HR.out.step hbl)
 clear hbl k0 k1
 have k0 := HA.out.c0
 have k1 := HA.out.c1
 go_wp2_with (first
  | refine wpList_store_row' rfl 24 (.tmp 4) (.tmp 30) rfl (w.heap.size + 1) #[.int .i8 0, .int .i64 (d + k)] rfl rfl 24 #[.int .i8 0, .int .i64 0] HR.out.heap infoEnd rfl (two_one _ _) ?_)
 refine bodyPost_ret (results_cell_tmp (p := 4) (ty := 24) rfl _ _ (w.heap.size + 1) 24 #[.int .i8 0, .int .i64 (d + k)] (0, 0) _ rfl (setRow_heap _ _ _ _ _ _ HR.out.heap) Tryz.underlying24 rfl infoEnd) rfl ?_
 exact ⟨rfl, below_setRow HR.out.below HR.out.base _⟩
theorem dNext_isS {f d g e c : Int} (h : StepE true f d g e c) (d0 : -9223372036854775808 ≤ d) (d1 : d ≤ 9223372036854775807) (w : World) (hL : LaidEn w) :
 Calls Tryz.prog 83 #[.agg #[.int .i8 f, .int .i64 d], .int .i64 1] w fun x w' => x = .returned (.tuple #[.agg #[.int .i8 g, .int .i64 e], .int .i64 c]) ∧ Below w.heap.size w w' := by
 by_cases h0 : chkE f d = 0
 ·by_cases h1 : f = 0
  ·subst h1
   by_cases h2 : d = 9223372036854775807
   ·obtain ⟨rfl, rfl, rfl⟩ := h.over rfl h2
    exact dStep_over d0 d1 (by decide) (by decide) (by omega) w hL
   ·obtain ⟨rfl, he, rfl⟩ := h.day rfl h2
    have he : e = d + 1 := by rw [he]; simp; try omega
    subst he
    exact dStep_day d0 d1 (by decide) (by decide) (by omega) (by omega) w hL
  ·obtain ⟨rfl, rfl, rfl⟩ := h.inf h0 h1
   exact dStep_inf h0 h1 w hL
 ·obtain ⟨rfl, rfl, rfl⟩ := h.bad h0
  have h5 : chkE f d = 5 := by unfold chkE at h0 ⊢; split at h0 <;> first | omega | (rw [if_neg (by assumption)])
  exact dStep_bad h5 (by decide) w hL
set_option maxHeartbeats 1000000 in
theorem dNext_is {f d g e c : Int} (h : StepE true f d g e c) (d0 : -9223372036854775808 ≤ d) (d1 : d ≤ 9223372036854775807) (w : World) (hL : LaidEn w) :
 Calls Tryz.prog 69 #[.agg #[.int .i8 f, .int .i64 d]] w fun x w' => x = .returned (.tuple #[.agg #[.int .i8 g, .int .i64 e], .int .i64 c]) ∧ Below w.heap.size w w' := by
 have HA := Kp.mk (eb_two w f d 0 0).1
 have HR : Kp (ERow w (w.heap.size + 1) 0 0 ((w.alloc (.cells #[.int .i8 f, .int .i64 d] 24)).alloc (.cells #[.int .i8 0, .int .i64 0] 24))) := Kp.mk (by
  have := erow_new 0 0 (eb_new f d 24 (Below.refl w.heap.size w)).below
  rw [World.size_alloc] at this
  exact this)
 have r1 := Kp.mk (fun v (hv : Below w.heap.size w v) => dNext_isS h d0 d1 v (hL.below hv))
 clear h d0 d1 hL
 go_enter Tryz.func69, Tryz.ntmps69
 go_upto_region 1 with fail
 generalize (w.alloc (.cells #[.int .i8 f, .int .i64 d] 24)).alloc (.cells #[.int .i8 0, .int .i64 0] 24) = w0 at *
 have k0 := HA.out.c0
 have k1 := HA.out.c1
 go_wp2_with fail
 refine (r1.out _ HR.out.below).mono ?_
 rintro e' w1 ⟨rfl, hbl⟩
 have HA := Kp.mk (HA.out.step hbl)
 have HR := Kp.mk (HR.out.step hbl)
 clear hbl k0 k1
 have k0 := HA.out.c0
 have k1 := HA.out.c1
 go_wp2_with (first
  | refine wpList_store_row' rfl 24 (.tmp 2) (.tmp 6) rfl (w.heap.size + 1) #[.int .i8 g, .int .i64 e] rfl rfl 24 #[.int .i8 0, .int .i64 0] HR.out.heap infoEnd rfl (two_one _ _) ?_)
 refine bodyPost_ret (results_cell_tmp (p := 2) (ty := 24) rfl _ _ (w.heap.size + 1) 24 #[.int .i8 g, .int .i64 e] (0, 0) _ rfl (setRow_heap _ _ _ _ _ _ HR.out.heap) Tryz.underlying24 rfl infoEnd) rfl ?_
 exact ⟨rfl, below_setRow HR.out.below HR.out.base _⟩
end Go.Proofs.YteddfolhpoikcaaGreatDoor
