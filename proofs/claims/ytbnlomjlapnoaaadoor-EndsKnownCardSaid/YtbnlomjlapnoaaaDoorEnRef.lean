/-
  DERIVED. CONTRACTS of the reference of layer 8 (ends): Check, Compare, Next, Prev, Text, Parse. Written by mkenref.py.
-/
import Derived.Test.YtbnlomjlapnoaaaDoorEnRefA
import Derived.Test.YtbnlomjlapnoaaaDoorEnTxt
import Derived.Test.YtbnlomjlapnoaaaDoorBs
import Derived.Test.YtbnlomjlapnoaaaDoorRowN
import Derived.Test.YtbnlomjlapnoaaaDoorResCell
import Derived.Test.YtbnlomjlapnoaaaDoorNums
import Derived.Test.YtbnlomjlapnoaaaDoorR1ParseAll
import Derived.BigQuiet
import Derived.WalkSmall
import Derived.Deep.Cut
namespace Go.Proofs.YtbnlomjlapnoaaaDoor
open Go.RowKit
set_option maxRecDepth 100000

set_option maxHeartbeats 1000000 in
theorem refENext_is {f d g e c : Int} (h : StepE true f d g e c) (d0 : -9223372036854775808 ≤ d) (d1 : d ≤ 9223372036854775807) (w : World) :
    Calls Tryd.prog 15 #[.agg #[.int .i8 f, .int .i64 d]] w fun x w' => x = .returned (.tuple #[.agg #[.int .i8 g, .int .i64 e], .int .i64 c]) ∧ Below w.heap.size w w' := by
  have HA := Kp.mk (eb_two w f d 0 0).1
  have HR : Kp (ERow w (w.heap.size + 1) 0 0 ((w.alloc (.cells #[.int .i8 f, .int .i64 d] 24)).alloc (.cells #[.int .i8 0, .int .i64 0] 24))) := Kp.mk (by
    have := erow_new 0 0 (eb_new f d 24 (Below.refl w.heap.size w)).below
    rw [World.size_alloc] at this
    exact this)
  obtain ⟨a, ha⟩ : ∃ a, chkE f d = a := ⟨_, rfl⟩
  have r1 := Kp.mk (fun w => refEChk_is ha w)
  by_cases h0 : a = 0
  · subst h0
    by_cases h1 : f = 0
    · by_cases h2 : d = 9223372036854775807
      · obtain ⟨rfl, rfl, rfl⟩ := h.over h1 h2
        subst h1
        have t2 : (d == 9223372036854775807) = true := by rw [beq_iff_eq]; exact h2
        clear h d0 d1 ha h2
        go_enter Tryd.func15, Tryd.ntmps15
        go_upto_region 1 with fail
        generalize (w.alloc (.cells #[.int .i8 0, .int .i64 d] 24)).alloc (.cells #[.int .i8 0, .int .i64 0] 24) = w0 at *
        have k0 := HA.out.c0
        have k1 := HA.out.c1
        go_wp2_with fail
        refine (r1.out _).mono ?_
        rintro e' w1 ⟨rfl, hbl⟩
        have HA := Kp.mk (HA.out.step hbl)
        have HR := Kp.mk (HR.out.step hbl)
        clear hbl k0 k1
        have k0 := HA.out.c0
        have k1 := HA.out.c1
        go_wp2_with (first
          | refine wpList_store_row' rfl 24 (.tmp 2) (.tmp 18) rfl (w.heap.size + 1) #[.int .i8 0, .int .i64 0] rfl rfl 24 #[.int .i8 0, .int .i64 0] HR.out.heap infoEnd rfl (two_one _ _) ?_)
        refine bodyPost_ret (results_cell_tmp (p := 2) (ty := 24) rfl _ _ (w.heap.size + 1) 24 #[.int .i8 0, .int .i64 0] (0, 0) _ rfl (setRow_heap _ _ _ _ _ _ HR.out.heap) Tryd.underlying24 rfl infoEnd) rfl ?_
        exact ⟨rfl, below_setRow HR.out.below HR.out.base _⟩
      · obtain ⟨rfl, rfl, rfl⟩ := h.day h1 h2
        subst h1
        have t2 : (d == 9223372036854775807) = false := by rw [beq_eq_false_iff_ne]; exact h2
        have w9 : IntKind.i64.wrap (d + 1) = d + 1 := IntWalk.i64_in _ (by omega)
        clear h d0 d1 ha h2
        go_enter Tryd.func15, Tryd.ntmps15
        go_upto_region 1 with fail
        generalize (w.alloc (.cells #[.int .i8 0, .int .i64 d] 24)).alloc (.cells #[.int .i8 0, .int .i64 0] 24) = w0 at *
        have k0 := HA.out.c0
        have k1 := HA.out.c1
        go_wp2_with fail
        refine (r1.out _).mono ?_
        rintro e' w1 ⟨rfl, hbl⟩
        have HA := Kp.mk (HA.out.step hbl)
        have HR := Kp.mk (HR.out.step hbl)
        clear hbl k0 k1
        have k0 := HA.out.c0
        have k1 := HA.out.c1
        go_wp2_with (first
          | refine wpList_store_row' rfl 24 (.tmp 2) (.tmp 22) rfl (w.heap.size + 1) #[.int .i8 0, .int .i64 (d + 1)] rfl rfl 24 #[.int .i8 0, .int .i64 0] HR.out.heap infoEnd rfl (two_one _ _) ?_)
        refine bodyPost_ret (results_cell_tmp (p := 2) (ty := 24) rfl _ _ (w.heap.size + 1) 24 #[.int .i8 0, .int .i64 (d + 1)] (0, 0) _ rfl (setRow_heap _ _ _ _ _ _ HR.out.heap) Tryd.underlying24 rfl infoEnd) rfl ?_
        exact ⟨rfl, below_setRow HR.out.below HR.out.base _⟩
    · obtain ⟨rfl, rfl, rfl⟩ := h.inf ha h1
      have t1 : (g != 0) = true := by rw [bne_iff_ne]; exact h1
      clear h d0 d1 ha h1
      go_enter Tryd.func15, Tryd.ntmps15
      go_upto_region 1 with fail
      generalize (w.alloc (.cells #[.int .i8 g, .int .i64 e] 24)).alloc (.cells #[.int .i8 0, .int .i64 0] 24) = w0 at *
      have k0 := HA.out.c0
      have k1 := HA.out.c1
      go_wp2_with fail
      refine (r1.out _).mono ?_
      rintro e' w1 ⟨rfl, hbl⟩
      have HA := Kp.mk (HA.out.step hbl)
      have HR := Kp.mk (HR.out.step hbl)
      clear hbl k0 k1
      have k0 := HA.out.c0
      have k1 := HA.out.c1
      go_wp2_with (first
        | refine wpList_store_row' rfl 24 (.tmp 2) (.tmp 14) rfl (w.heap.size + 1) #[.int .i8 g, .int .i64 e] rfl rfl 24 #[.int .i8 0, .int .i64 0] HR.out.heap infoEnd rfl (two_one _ _) ?_)
      refine bodyPost_ret (results_cell_tmp (p := 2) (ty := 24) rfl _ _ (w.heap.size + 1) 24 #[.int .i8 g, .int .i64 e] (0, 0) _ rfl (setRow_heap _ _ _ _ _ _ HR.out.heap) Tryd.underlying24 rfl infoEnd) rfl ?_
      exact ⟨rfl, below_setRow HR.out.below HR.out.base _⟩
  · obtain ⟨rfl, rfl, rfl⟩ := h.bad (by rw [ha]; exact h0)
    obtain rfl : a = 5 := by rw [← ha]; unfold chkE at ha ⊢; split at ha <;> first | omega | (rw [if_neg (by assumption)])
    clear h d0 d1 ha h0
    go_enter Tryd.func15, Tryd.ntmps15
    go_upto_region 1 with fail
    generalize (w.alloc (.cells #[.int .i8 f, .int .i64 d] 24)).alloc (.cells #[.int .i8 0, .int .i64 0] 24) = w0 at *
    have k0 := HA.out.c0
    have k1 := HA.out.c1
    go_wp2_with fail
    refine (r1.out _).mono ?_
    rintro e' w1 ⟨rfl, hbl⟩
    have HA := Kp.mk (HA.out.step hbl)
    have HR := Kp.mk (HR.out.step hbl)
    clear hbl k0 k1
    have k0 := HA.out.c0
    have k1 := HA.out.c1
    go_wp2_with (first
      | refine wpList_store_row' rfl 24 (.tmp 2) (.tmp 9) rfl (w.heap.size + 1) #[.int .i8 0, .int .i64 0] rfl rfl 24 #[.int .i8 0, .int .i64 0] HR.out.heap infoEnd rfl (two_one _ _) ?_)
    refine bodyPost_ret (results_cell_tmp (p := 2) (ty := 24) rfl _ _ (w.heap.size + 1) 24 #[.int .i8 0, .int .i64 0] (0, 0) _ rfl (setRow_heap _ _ _ _ _ _ HR.out.heap) Tryd.underlying24 rfl infoEnd) rfl ?_
    exact ⟨rfl, below_setRow HR.out.below HR.out.base _⟩
set_option maxHeartbeats 1000000 in
theorem refEPrev_is {f d g e c : Int} (h : StepE false f d g e c) (d0 : -9223372036854775808 ≤ d) (d1 : d ≤ 9223372036854775807) (w : World) :
    Calls Tryd.prog 16 #[.agg #[.int .i8 f, .int .i64 d]] w fun x w' => x = .returned (.tuple #[.agg #[.int .i8 g, .int .i64 e], .int .i64 c]) ∧ Below w.heap.size w w' := by
  have HA := Kp.mk (eb_two w f d 0 0).1
  have HR : Kp (ERow w (w.heap.size + 1) 0 0 ((w.alloc (.cells #[.int .i8 f, .int .i64 d] 24)).alloc (.cells #[.int .i8 0, .int .i64 0] 24))) := Kp.mk (by
    have := erow_new 0 0 (eb_new f d 24 (Below.refl w.heap.size w)).below
    rw [World.size_alloc] at this
    exact this)
  obtain ⟨a, ha⟩ : ∃ a, chkE f d = a := ⟨_, rfl⟩
  have r1 := Kp.mk (fun w => refEChk_is ha w)
  by_cases h0 : a = 0
  · subst h0
    by_cases h1 : f = 0
    · by_cases h2 : d = (-9223372036854775808)
      · obtain ⟨rfl, rfl, rfl⟩ := h.over h1 h2
        subst h1
        have t2 : (d == (-9223372036854775808)) = true := by rw [beq_iff_eq]; exact h2
        clear h d0 d1 ha h2
        go_enter Tryd.func16, Tryd.ntmps16
        go_upto_region 1 with fail
        generalize (w.alloc (.cells #[.int .i8 0, .int .i64 d] 24)).alloc (.cells #[.int .i8 0, .int .i64 0] 24) = w0 at *
        have k0 := HA.out.c0
        have k1 := HA.out.c1
        go_wp2_with fail
        refine (r1.out _).mono ?_
        rintro e' w1 ⟨rfl, hbl⟩
        have HA := Kp.mk (HA.out.step hbl)
        have HR := Kp.mk (HR.out.step hbl)
        clear hbl k0 k1
        have k0 := HA.out.c0
        have k1 := HA.out.c1
        go_wp2_with (first
          | refine wpList_store_row' rfl 24 (.tmp 2) (.tmp 18) rfl (w.heap.size + 1) #[.int .i8 0, .int .i64 0] rfl rfl 24 #[.int .i8 0, .int .i64 0] HR.out.heap infoEnd rfl (two_one _ _) ?_)
        refine bodyPost_ret (results_cell_tmp (p := 2) (ty := 24) rfl _ _ (w.heap.size + 1) 24 #[.int .i8 0, .int .i64 0] (0, 0) _ rfl (setRow_heap _ _ _ _ _ _ HR.out.heap) Tryd.underlying24 rfl infoEnd) rfl ?_
        exact ⟨rfl, below_setRow HR.out.below HR.out.base _⟩
      · obtain ⟨rfl, rfl, rfl⟩ := h.day h1 h2
        subst h1
        have t2 : (d == (-9223372036854775808)) = false := by rw [beq_eq_false_iff_ne]; exact h2
        have w9 : IntKind.i64.wrap (d - 1) = d - 1 := IntWalk.i64_in _ (by omega)
        clear h d0 d1 ha h2
        go_enter Tryd.func16, Tryd.ntmps16
        go_upto_region 1 with fail
        generalize (w.alloc (.cells #[.int .i8 0, .int .i64 d] 24)).alloc (.cells #[.int .i8 0, .int .i64 0] 24) = w0 at *
        have k0 := HA.out.c0
        have k1 := HA.out.c1
        go_wp2_with fail
        refine (r1.out _).mono ?_
        rintro e' w1 ⟨rfl, hbl⟩
        have HA := Kp.mk (HA.out.step hbl)
        have HR := Kp.mk (HR.out.step hbl)
        clear hbl k0 k1
        have k0 := HA.out.c0
        have k1 := HA.out.c1
        go_wp2_with (first
          | refine wpList_store_row' rfl 24 (.tmp 2) (.tmp 22) rfl (w.heap.size + 1) #[.int .i8 0, .int .i64 (d - 1)] rfl rfl 24 #[.int .i8 0, .int .i64 0] HR.out.heap infoEnd rfl (two_one _ _) ?_)
        refine bodyPost_ret (results_cell_tmp (p := 2) (ty := 24) rfl _ _ (w.heap.size + 1) 24 #[.int .i8 0, .int .i64 (d - 1)] (0, 0) _ rfl (setRow_heap _ _ _ _ _ _ HR.out.heap) Tryd.underlying24 rfl infoEnd) rfl ?_
        exact ⟨rfl, below_setRow HR.out.below HR.out.base _⟩
    · obtain ⟨rfl, rfl, rfl⟩ := h.inf ha h1
      have t1 : (g != 0) = true := by rw [bne_iff_ne]; exact h1
      clear h d0 d1 ha h1
      go_enter Tryd.func16, Tryd.ntmps16
      go_upto_region 1 with fail
      generalize (w.alloc (.cells #[.int .i8 g, .int .i64 e] 24)).alloc (.cells #[.int .i8 0, .int .i64 0] 24) = w0 at *
      have k0 := HA.out.c0
      have k1 := HA.out.c1
      go_wp2_with fail
      refine (r1.out _).mono ?_
      rintro e' w1 ⟨rfl, hbl⟩
      have HA := Kp.mk (HA.out.step hbl)
      have HR := Kp.mk (HR.out.step hbl)
      clear hbl k0 k1
      have k0 := HA.out.c0
      have k1 := HA.out.c1
      go_wp2_with (first
        | refine wpList_store_row' rfl 24 (.tmp 2) (.tmp 14) rfl (w.heap.size + 1) #[.int .i8 g, .int .i64 e] rfl rfl 24 #[.int .i8 0, .int .i64 0] HR.out.heap infoEnd rfl (two_one _ _) ?_)
      refine bodyPost_ret (results_cell_tmp (p := 2) (ty := 24) rfl _ _ (w.heap.size + 1) 24 #[.int .i8 g, .int .i64 e] (0, 0) _ rfl (setRow_heap _ _ _ _ _ _ HR.out.heap) Tryd.underlying24 rfl infoEnd) rfl ?_
      exact ⟨rfl, below_setRow HR.out.below HR.out.base _⟩
  · obtain ⟨rfl, rfl, rfl⟩ := h.bad (by rw [ha]; exact h0)
    obtain rfl : a = 5 := by rw [← ha]; unfold chkE at ha ⊢; split at ha <;> first | omega | (rw [if_neg (by assumption)])
    clear h d0 d1 ha h0
    go_enter Tryd.func16, Tryd.ntmps16
    go_upto_region 1 with fail
    generalize (w.alloc (.cells #[.int .i8 f, .int .i64 d] 24)).alloc (.cells #[.int .i8 0, .int .i64 0] 24) = w0 at *
    have k0 := HA.out.c0
    have k1 := HA.out.c1
    go_wp2_with fail
    refine (r1.out _).mono ?_
    rintro e' w1 ⟨rfl, hbl⟩
    have HA := Kp.mk (HA.out.step hbl)
    have HR := Kp.mk (HR.out.step hbl)
    clear hbl k0 k1
    have k0 := HA.out.c0
    have k1 := HA.out.c1
    go_wp2_with (first
      | refine wpList_store_row' rfl 24 (.tmp 2) (.tmp 9) rfl (w.heap.size + 1) #[.int .i8 0, .int .i64 0] rfl rfl 24 #[.int .i8 0, .int .i64 0] HR.out.heap infoEnd rfl (two_one _ _) ?_)
    refine bodyPost_ret (results_cell_tmp (p := 2) (ty := 24) rfl _ _ (w.heap.size + 1) 24 #[.int .i8 0, .int .i64 0] (0, 0) _ rfl (setRow_heap _ _ _ _ _ _ HR.out.heap) Tryd.underlying24 rfl infoEnd) rfl ?_
    exact ⟨rfl, below_setRow HR.out.below HR.out.base _⟩
end Go.Proofs.YtbnlomjlapnoaaaDoor
