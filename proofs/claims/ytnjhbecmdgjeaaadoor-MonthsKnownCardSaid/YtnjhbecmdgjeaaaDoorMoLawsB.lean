/-
  DERIVED. WALKS of the laws MonthsBetween and MonthsKnown, given the contracts of package months. Written by mkmonths2.py.
-/
import Derived.Test.YtnjhbecmdgjeaaaDoorMoLaws
namespace Go.Proofs.YtnjhbecmdgjeaaaDoor
open Go.RowKit

/-- a struct of four numbers, as every world of the walk has it -/
structure Tw (w : World) (g : Nat) (y z m n : Int) (W : World) : Prop where
  below : Below w.heap.size w W
  size : g < W.heap.size
  c0 : W.cell? ⟨g, 0, none⟩ = some (.int .i64 y)
  c1 : W.cell? ⟨g, 1, none⟩ = some (.int .i64 z)
  c2 : W.cell? ⟨g, 2, none⟩ = some (.int .i64 m)
  c3 : W.cell? ⟨g, 3, none⟩ = some (.int .i64 n)
theorem Tw.step {w W W' : World} {g : Nat} {y z m n : Int} (h : Tw w g y z m n W) (hb : Below W.heap.size W W') : Tw w g y z m n W' :=
  ⟨h.below.trans (hb.mono h.below.size), by have := hb.size; have := h.size; omega, by rw [hb.cell (p := ⟨g, 0, none⟩) h.size]; exact h.c0, by rw [hb.cell (p := ⟨g, 1, none⟩) h.size]; exact h.c1,
   by rw [hb.cell (p := ⟨g, 2, none⟩) h.size]; exact h.c2, by rw [hb.cell (p := ⟨g, 3, none⟩) h.size]; exact h.c3⟩
theorem Tw.drewN {w W : World} {g : Nat} {y z m n : Int} (h : Tw w g y z m n W) (q : Nat) : Tw w g y z m n (W.drewN q) := h.step (below_drewN (Below.refl _ _) q)
theorem tw_new (w : World) (y z m n : Int) (t : TypeId) : Tw w w.heap.size y z m n (w.alloc (.cells #[.int .i64 y, .int .i64 z, .int .i64 m, .int .i64 n] t)) :=
  ⟨(Below.refl _ _).alloc (Nat.le_refl _) _, by simp, by rw [World.cell?_alloc_new]; rfl, by rw [World.cell?_alloc_new]; rfl, by rw [World.cell?_alloc_new]; rfl, by rw [World.cell?_alloc_new]; rfl⟩
set_option maxRecDepth 100000 in
set_option maxHeartbeats 3000000 in
theorem lawBetween_any {I : World → Prop} (C : MonthFns I) (y z m n : Int) (w : World) (hI : I w) (y0 : -9223372036854775808 ≤ y) (y1 : y ≤ 9223372036854775807) (z0 : -9223372036854775808 ≤ z) (z1 : z ≤ 9223372036854775807)
    (m0 : -9223372036854775808 ≤ m) (m1 : m ≤ 9223372036854775807) (n0 : -9223372036854775808 ≤ n) (n1 : n ≤ 9223372036854775807) :
    Calls Tryd.prog 6 #[.agg #[.int .i64 y, .int .i64 z, .int .i64 m, .int .i64 n]] w fun e w' => e = .returned (.bool true) ∧ Below w.heap.size w w' := by
  have HB := Kp.mk (tw_new w y z m n 48)
  have HI := Kp.mk (fun (v : World) (h : Below w.heap.size w v) => C.keep hI h)
  clear hI
  have rl := Kp.mk (fun v (hw : Below w.heap.size w v) => C.lives v (HI.out v hw))
  obtain ⟨a, ha⟩ : ∃ c, chkM y m = c := ⟨_, rfl⟩
  obtain ⟨b, hb⟩ : ∃ c, chkM z n = c := ⟨_, rfl⟩
  have m1' : Kp (∀ w, Calls Tryd.prog 11 #[.int .i64 y, .int .i64 m] w fun e w' => e = .returned (.int .i64 a) ∧ w' = w) := Kp.mk (fun w => (refChk_is w ha).mono fun _ _ h => ⟨h.1, h.2.symm⟩)
  have m2' : Kp (∀ w, Calls Tryd.prog 11 #[.int .i64 z, .int .i64 n] w fun e w' => e = .returned (.int .i64 b) ∧ w' = w) := Kp.mk (fun w => (refChk_is w hb).mono fun _ _ h => ⟨h.1, h.2.symm⟩)
  by_cases ga : a = 0
  · subst ga
    by_cases gb : b = 0
    · subst gb
      have hym := (chkM_iff y m).1 ha
      have hzn := (chkM_iff z n).1 hb
      have hyr := (isY_iff y).1 hym.1
      have hzr := (isY_iff z).1 hzn.1
      obtain ⟨k, hk⟩ : ∃ k, ixM z n - ixM y m = k := ⟨_, rfl⟩
      have hkr : -300000000000000000 ≤ k ∧ k ≤ 300000000000000000 := by rw [← hk]; unfold ixM; omega
      have r1 := Kp.mk (fun v (hw : Below w.heap.size w v) => C.between_in v (HI.out v hw) y0 y1 m0 m1 z0 z1 n0 n1 ha hb hk)
      have r2 := Kp.mk (fun v (hw : Below w.heap.size w v) => C.between_in (v := -k) v (HI.out v hw) z0 z1 n0 n1 y0 y1 m0 m1 hb ha (by omega))
      have hix : ixM y m + k = ixM z n := by omega
      have hof := of_ix (y := z) hzn.2.1 hzn.2.2
      have r3 : Kp (∀ w, Calls Tryd.prog 23 #[.int .i64 y, .int .i64 m, .int .i64 k] w fun e w' => e = .returned (.tuple #[.int .i64 z, .int .i64 n, .bool true]) ∧ w = w') := Kp.mk (fun w => by
        have := refMAdd_is (k := k) (b := true) w hym.1 hym.2.1 hym.2.2 (by omega) (by omega) (by rw [hix, hof.1]; exact hzn.1)
        rw [hix, hof.1, hof.2] at this
        exact this)
      have q1 := Kp.mk (fun w => num_is w (numB_self (-k)))
      have w1 : IntKind.i64.wrap (-k) = -k := IntWalk.i64_in _ (by omega)
      clear C ha hb hym hzn hyr hzr hk hkr hix hof y0 y1 z0 z1 m0 m1 n0 n1
      go_enter Tryd.func6, Tryd.ntmps6
      go_upto_region 1 with fail
      generalize w.alloc (.cells #[.int .i64 y, .int .i64 z, .int .i64 m, .int .i64 n] 48) = w0 at *
      have c0 := HB.out.c0
      have c1 := HB.out.c1
      have c2 := HB.out.c2
      have c3 := HB.out.c3
      go_wp2_with fail
      refine (r1.out _ HB.out.below).mono ?_
      rintro e w' ⟨rfl, hbl⟩
      have HB := Kp.mk (HB.out.step hbl)
      clear hbl
      clear c0 c1 c2 c3
      have c0 := HB.out.c0
      have c1 := HB.out.c1
      have c2 := HB.out.c2
      have c3 := HB.out.c3
      go_wp2_with fail
      refine (r2.out _ HB.out.below).mono ?_
      rintro e w' ⟨rfl, hbl⟩
      have HB := Kp.mk (HB.out.step hbl)
      clear hbl
      clear c0 c1 c2 c3
      have c0 := HB.out.c0
      have c1 := HB.out.c1
      have c2 := HB.out.c2
      have c3 := HB.out.c3
      go_upto_region 3 with fail
      go_quiet ((first | (go_at_call 11; with_reducible exact Calls.quiet_of_same (m1'.out _)) | (go_at_call 11; with_reducible exact Calls.quiet_of_same (m2'.out _))))
      generalize hwq : World.drewN w' _ = wq
      have HB := Kp.mk (show Tw w w.heap.size y z m n wq by rw [← hwq]; exact HB.out.drewN _)
      clear hwq
      clear c0 c1 c2 c3
      have c0 := HB.out.c0
      have c1 := HB.out.c1
      have c2 := HB.out.c2
      have c3 := HB.out.c3
      go_wp2_with fail
      refine (r3.out _).mono ?_
      rintro e w' ⟨rfl, rfl⟩
      go_wp2_with fail
      refine (q1.out _).mono ?_
      rintro e w' ⟨rfl, rfl⟩
      go_wp2_with fail
      refine (rl.out _ HB.out.below).mono ?_
      rintro e w' ⟨rfl, hbl⟩
      have HB := Kp.mk (HB.out.step hbl)
      clear hbl
      clear c0 c1 c2 c3
      have c0 := HB.out.c0
      have c1 := HB.out.c1
      have c2 := HB.out.c2
      have c3 := HB.out.c3
      go_wp2_with fail
      go_ret
      exact ⟨rfl, HB.out.below⟩
    · have r1 := Kp.mk (fun v (hw : Below w.heap.size w v) => C.between_out v (HI.out v hw) y0 y1 m0 m1 z0 z1 n0 n1 gb (.inr ⟨ha, hb⟩))
      have r2 := Kp.mk (fun v (hw : Below w.heap.size w v) => C.between_out v (HI.out v hw) z0 z1 n0 n1 y0 y1 m0 m1 gb (.inl hb))
      have t1 : (b != 0) = true := by rw [bne_iff_ne]; exact gb
      have t2 : (b == 0) = false := by rw [beq_eq_false_iff_ne]; exact gb
      clear C ha hb y0 y1 z0 z1 m0 m1 n0 n1 gb
      go_enter Tryd.func6, Tryd.ntmps6
      go_upto_region 1 with fail
      generalize w.alloc (.cells #[.int .i64 y, .int .i64 z, .int .i64 m, .int .i64 n] 48) = w0 at *
      have c0 := HB.out.c0
      have c1 := HB.out.c1
      have c2 := HB.out.c2
      have c3 := HB.out.c3
      go_wp2_with fail
      refine (r1.out _ HB.out.below).mono ?_
      rintro e w' ⟨rfl, hbl⟩
      have HB := Kp.mk (HB.out.step hbl)
      clear hbl
      clear c0 c1 c2 c3
      have c0 := HB.out.c0
      have c1 := HB.out.c1
      have c2 := HB.out.c2
      have c3 := HB.out.c3
      go_wp2_with fail
      refine (r2.out _ HB.out.below).mono ?_
      rintro e w' ⟨rfl, hbl⟩
      have HB := Kp.mk (HB.out.step hbl)
      clear hbl
      clear c0 c1 c2 c3
      have c0 := HB.out.c0
      have c1 := HB.out.c1
      have c2 := HB.out.c2
      have c3 := HB.out.c3
      go_upto_region 3 with fail
      go_quiet ((first | (go_at_call 11; with_reducible exact Calls.quiet_of_same (m1'.out _)) | (go_at_call 11; with_reducible exact Calls.quiet_of_same (m2'.out _))))
      generalize hwq : World.drewN w' _ = wq
      have HB := Kp.mk (show Tw w w.heap.size y z m n wq by rw [← hwq]; exact HB.out.drewN _)
      clear hwq
      clear c0 c1 c2 c3
      have c0 := HB.out.c0
      have c1 := HB.out.c1
      have c2 := HB.out.c2
      have c3 := HB.out.c3
      go_wp2_with fail
      refine (rl.out _ HB.out.below).mono ?_
      rintro e w' ⟨rfl, hbl⟩
      have HB := Kp.mk (HB.out.step hbl)
      clear hbl
      clear c0 c1 c2 c3
      have c0 := HB.out.c0
      have c1 := HB.out.c1
      have c2 := HB.out.c2
      have c3 := HB.out.c3
      go_wp2_with fail
      go_ret
      exact ⟨rfl, HB.out.below⟩
  · by_cases gb : b = 0
    · subst gb
      have r1 := Kp.mk (fun v (hw : Below w.heap.size w v) => C.between_out v (HI.out v hw) y0 y1 m0 m1 z0 z1 n0 n1 ga (.inl ha))
      have r2 := Kp.mk (fun v (hw : Below w.heap.size w v) => C.between_out v (HI.out v hw) z0 z1 n0 n1 y0 y1 m0 m1 ga (.inr ⟨hb, ha⟩))
      have t1 : (a != 0) = true := by rw [bne_iff_ne]; exact ga
      have t2 : (a == 0) = false := by rw [beq_eq_false_iff_ne]; exact ga
      clear C ha hb y0 y1 z0 z1 m0 m1 n0 n1 ga
      go_enter Tryd.func6, Tryd.ntmps6
      go_upto_region 1 with fail
      generalize w.alloc (.cells #[.int .i64 y, .int .i64 z, .int .i64 m, .int .i64 n] 48) = w0 at *
      have c0 := HB.out.c0
      have c1 := HB.out.c1
      have c2 := HB.out.c2
      have c3 := HB.out.c3
      go_wp2_with fail
      refine (r1.out _ HB.out.below).mono ?_
      rintro e w' ⟨rfl, hbl⟩
      have HB := Kp.mk (HB.out.step hbl)
      clear hbl
      clear c0 c1 c2 c3
      have c0 := HB.out.c0
      have c1 := HB.out.c1
      have c2 := HB.out.c2
      have c3 := HB.out.c3
      go_wp2_with fail
      refine (r2.out _ HB.out.below).mono ?_
      rintro e w' ⟨rfl, hbl⟩
      have HB := Kp.mk (HB.out.step hbl)
      clear hbl
      clear c0 c1 c2 c3
      have c0 := HB.out.c0
      have c1 := HB.out.c1
      have c2 := HB.out.c2
      have c3 := HB.out.c3
      go_upto_region 3 with fail
      go_quiet ((first | (go_at_call 11; with_reducible exact Calls.quiet_of_same (m1'.out _)) | (go_at_call 11; with_reducible exact Calls.quiet_of_same (m2'.out _))))
      generalize hwq : World.drewN w' _ = wq
      have HB := Kp.mk (show Tw w w.heap.size y z m n wq by rw [← hwq]; exact HB.out.drewN _)
      clear hwq
      clear c0 c1 c2 c3
      have c0 := HB.out.c0
      have c1 := HB.out.c1
      have c2 := HB.out.c2
      have c3 := HB.out.c3
      go_wp2_with fail
      refine (rl.out _ HB.out.below).mono ?_
      rintro e w' ⟨rfl, hbl⟩
      have HB := Kp.mk (HB.out.step hbl)
      clear hbl
      clear c0 c1 c2 c3
      have c0 := HB.out.c0
      have c1 := HB.out.c1
      have c2 := HB.out.c2
      have c3 := HB.out.c3
      go_wp2_with fail
      go_ret
      exact ⟨rfl, HB.out.below⟩
    · have r1 := Kp.mk (fun v (hw : Below w.heap.size w v) => C.between_out v (HI.out v hw) y0 y1 m0 m1 z0 z1 n0 n1 ga (.inl ha))
      have r2 := Kp.mk (fun v (hw : Below w.heap.size w v) => C.between_out v (HI.out v hw) z0 z1 n0 n1 y0 y1 m0 m1 gb (.inl hb))
      have t1 : (a != 0) = true := by rw [bne_iff_ne]; exact ga
      have t2 : (a == 0) = false := by rw [beq_eq_false_iff_ne]; exact ga
      have t3 : (b == 0) = false := by rw [beq_eq_false_iff_ne]; exact gb
      clear C ha hb y0 y1 z0 z1 m0 m1 n0 n1 ga gb
      go_enter Tryd.func6, Tryd.ntmps6
      go_upto_region 1 with fail
      generalize w.alloc (.cells #[.int .i64 y, .int .i64 z, .int .i64 m, .int .i64 n] 48) = w0 at *
      have c0 := HB.out.c0
      have c1 := HB.out.c1
      have c2 := HB.out.c2
      have c3 := HB.out.c3
      go_wp2_with fail
      refine (r1.out _ HB.out.below).mono ?_
      rintro e w' ⟨rfl, hbl⟩
      have HB := Kp.mk (HB.out.step hbl)
      clear hbl
      clear c0 c1 c2 c3
      have c0 := HB.out.c0
      have c1 := HB.out.c1
      have c2 := HB.out.c2
      have c3 := HB.out.c3
      go_wp2_with fail
      refine (r2.out _ HB.out.below).mono ?_
      rintro e w' ⟨rfl, hbl⟩
      have HB := Kp.mk (HB.out.step hbl)
      clear hbl
      clear c0 c1 c2 c3
      have c0 := HB.out.c0
      have c1 := HB.out.c1
      have c2 := HB.out.c2
      have c3 := HB.out.c3
      go_upto_region 3 with fail
      go_quiet ((first | (go_at_call 11; with_reducible exact Calls.quiet_of_same (m1'.out _)) | (go_at_call 11; with_reducible exact Calls.quiet_of_same (m2'.out _))))
      generalize hwq : World.drewN w' _ = wq
      have HB := Kp.mk (show Tw w w.heap.size y z m n wq by rw [← hwq]; exact HB.out.drewN _)
      clear hwq
      clear c0 c1 c2 c3
      have c0 := HB.out.c0
      have c1 := HB.out.c1
      have c2 := HB.out.c2
      have c3 := HB.out.c3
      go_wp2_with fail
      refine (rl.out _ HB.out.below).mono ?_
      rintro e w' ⟨rfl, hbl⟩
      have HB := Kp.mk (HB.out.step hbl)
      clear hbl
      clear c0 c1 c2 c3
      have c0 := HB.out.c0
      have c1 := HB.out.c1
      have c2 := HB.out.c2
      have c3 := HB.out.c3
      go_wp2_with fail
      go_ret
      exact ⟨rfl, HB.out.below⟩
/-- the months from the first one of the year -100 on -/
theorem kn_ix (i : Int) : ixM (yrI (-1200 + i)) (moI (-1200 + i)) = ixM (-100) 1 + i := by rw [ix_of]; unfold ixM; omega
set_option maxRecDepth 100000 in
set_option maxHeartbeats 3000000 in
theorem lawKnown_any {I : World → Prop} (C : MonthFns I) (w : World) (hI : I w) :
    Calls Tryd.prog 7 #[] w fun e w' => e = .returned (.bool true) ∧ Below w.heap.size w w' := by
  have HB := Kp.mk (Below.refl w.heap.size w)
  have HI := Kp.mk (fun (v : World) (h : Below w.heap.size w v) => C.keep hI h)
  clear hI
  have HC := Kp.mk C
  have r0 := Kp.mk (fun w => refStart_is (y := -100) w (by omega) (by omega) (Sm_one (-100)).symm)
  have h100 : chkM (-100) 1 = 0 := by decide
  clear C
  go_enter Tryd.func7, Tryd.ntmps7
  go_wp2_with fail
  refine (r0.out _).mono ?_
  rintro e w' ⟨rfl, rfl⟩
  go_wp2_with fail
  go_loopw [1, 2, 3, 4] (fun y m d i wr => ∃ j : Int, 0 ≤ j ∧ j ≤ 4800 ∧ i = .int .i64 j ∧ y = .int .i64 (yrI (-1200 + j)) ∧ m = .int .i64 (moI (-1200 + j)) ∧ d = .int .i64 (Sm (yrI (-1200 + j)) (moI (-1200 + j))) ∧ Kp (Below w.heap.size w wr)) (fun _ _ _ i _ => (4800 - intOf i).toNat)
  case atStart => exact ⟨0, by omega, by omega, rfl, rfl, rfl, rfl, HB⟩
  case round =>
    obtain ⟨j, hj0, hj1, rfl, rfl, rfl, rfl, HB⟩ := hrel
    by_cases hlt : j < 4800
    · have hm := moI_in (-1200 + j)
      have hy : -100 ≤ yrI (-1200 + j) ∧ yrI (-1200 + j) ≤ 300 := by unfold yrI; omega
      have hix := kn_ix j
      have hnx := Sm_next (y := yrI (-1200 + j)) hm.1 hm.2
      rw [ix_of, show -1200 + j + 1 = -1200 + (j + 1) by omega] at hnx
      have hstep : (moI (-1200 + j) = 12 ∧ moI (-1200 + (j + 1)) = 1 ∧ yrI (-1200 + (j + 1)) = yrI (-1200 + j) + 1) ∨ (¬ moI (-1200 + j) = 12 ∧ moI (-1200 + (j + 1)) = moI (-1200 + j) + 1 ∧ yrI (-1200 + (j + 1)) = yrI (-1200 + j)) := by unfold moI yrI; omega
      have hsu := Sm_succ (y := yrI (-1200 + j)) hm.1 hm.2
      obtain ⟨y, ey⟩ : ∃ y, yrI (-1200 + j) = y := ⟨_, rfl⟩
      obtain ⟨m, em⟩ : ∃ m, moI (-1200 + j) = m := ⟨_, rfl⟩
      obtain ⟨y2, ey2⟩ : ∃ y, yrI (-1200 + (j + 1)) = y := ⟨_, rfl⟩
      obtain ⟨m2, em2⟩ : ∃ m, moI (-1200 + (j + 1)) = m := ⟨_, rfl⟩
      rw [ey, em] at hix hnx hstep hsu
      rw [ey2, em2] at hnx hstep
      rw [em] at hm
      rw [ey] at hy
      rw [ey, em]
      have hyi : isY y = true := (isY_iff y).2 ⟨by omega, by omega⟩
      have hck : chkM y m = 0 := (chkM_iff y m).2 ⟨hyi, hm⟩
      have hll := lenM_in y m
      obtain ⟨l, hl⟩ : ∃ l, lenM y m = l := ⟨_, rfl⟩
      have hin := Sm_in (y := y) hm.1 (show m ≤ 13 by omega)
      have hsi := Sd_in hyi
      rw [hl] at hnx hsu hll
      have hmh : MonthHas y m (Sm y m) := ⟨hm.1, hm.2, Int.le_refl _, by omega⟩
      obtain ⟨d, hd⟩ : ∃ d, Sm y m = d := ⟨_, rfl⟩
      rw [hd] at hnx hsu hin hmh ⊢
      have r1 := Kp.mk (fun v (hw : Below w.heap.size w v) => HC.out.start_in (y := y) (m := m) v (HI.out v hw) (by omega) (by omega) (by omega) (by omega) hck hd)
      have r2 := Kp.mk (fun v (hw : Below w.heap.size w v) => HC.out.of_in (d := d) v (HI.out v hw) (by omega) (by omega) hyi hmh)
      have r3 := Kp.mk (fun v (hw : Below w.heap.size w v) => HC.out.add_in (y := -100) (m := 1) (k := j) (z := y) (n := m) v (HI.out v hw) (by omega) (by omega) (by omega) (by omega) (by omega) (by omega) h100 (by rw [← hix]; exact (of_ix hm.1 hm.2).1) (by rw [← hix]; exact (of_ix hm.1 hm.2).2) hyi)
      have r4 := Kp.mk (fun v (hw : Below w.heap.size w v) => HC.out.between_in (y := -100) (m := 1) (z := y) (n := m) (v := j) v (HI.out v hw) (by omega) (by omega) (by omega) (by omega) (by omega) (by omega) (by omega) (by omega) h100 hck (by omega))
      have r5 := Kp.mk (fun w => refMLen_is w hl)
      have q1 := Kp.mk (fun w => num_is w (numB_self d))
      have q2 := Kp.mk (fun w => month_is y m w)
      have q3 := Kp.mk (fun w => num_is w (numB_self j))
      have w1 : IntKind.i64.wrap l = l := IntWalk.i64_in _ (by omega)
      have w2 : IntKind.i64.wrap (d + l) = d + l := IntWalk.i64_in _ (by omega)
      have w3 : IntKind.i64.wrap (m + 1) = m + 1 := IntWalk.i64_in _ (by omega)
      have w4 : IntKind.i64.wrap (y + 1) = y + 1 := IntWalk.i64_in _ (by omega)
      have w5 : IntKind.i64.wrap (j + 1) = j + 1 := IntWalk.i64_in _ (by omega)
      have HN := Kp.mk (And.intro ey2 (And.intro em2 hnx))
      clear hix hsu ey em ey2 em2 hyi hck hl hmh hd hnx hin hsi hll hy h100
      rcases hstep with ⟨rfl, rfl, rfl⟩ | ⟨hne, rfl, rfl⟩
      · have t1 : ((12 : Int) + 1 == 13) = true := by decide
        clear hm
        go_wp2_with fail
        refine (r1.out _ HB.out).mono ?_
        rintro e w' ⟨rfl, hbl⟩
        have HB := Kp.mk (HB.out.trans (hbl.mono HB.out.size))
        clear hbl
        go_wp2_with fail
        refine (r2.out _ HB.out).mono ?_
        rintro e w' ⟨rfl, hbl⟩
        have HB := Kp.mk (HB.out.trans (hbl.mono HB.out.size))
        clear hbl
        go_wp2_with fail
        refine (r3.out _ HB.out).mono ?_
        rintro e w' ⟨rfl, hbl⟩
        have HB := Kp.mk (HB.out.trans (hbl.mono HB.out.size))
        clear hbl
        go_wp2_with fail
        refine (r4.out _ HB.out).mono ?_
        rintro e w' ⟨rfl, hbl⟩
        have HB := Kp.mk (HB.out.trans (hbl.mono HB.out.size))
        clear hbl
        go_wp2_with fail
        refine (q1.out _).mono ?_
        rintro e w' ⟨rfl, rfl⟩
        go_wp2_with fail
        refine (q2.out _).mono ?_
        rintro e w' ⟨rfl, rfl⟩
        go_wp2_with fail
        refine (q2.out _).mono ?_
        rintro e w' ⟨rfl, rfl⟩
        go_wp2_with fail
        refine (q3.out _).mono ?_
        rintro e w' ⟨rfl, rfl⟩
        go_wp2_with fail
        refine (r5.out _).mono ?_
        rintro e w' ⟨rfl, rfl⟩
        go_wp2_with fail
        go_roundw
        case rel => exact ⟨j + 1, by omega, by omega, by go_num, by rw [HN.out.1], by rw [HN.out.2.1], by rw [HN.out.1, HN.out.2.1, HN.out.2.2], HB⟩
        case measure => simp [intOf]; omega
      · have t1 : (m + 1 == 13) = false := by rw [beq_eq_false_iff_ne]; omega
        clear hm hne
        go_wp2_with fail
        refine (r1.out _ HB.out).mono ?_
        rintro e w' ⟨rfl, hbl⟩
        have HB := Kp.mk (HB.out.trans (hbl.mono HB.out.size))
        clear hbl
        go_wp2_with fail
        refine (r2.out _ HB.out).mono ?_
        rintro e w' ⟨rfl, hbl⟩
        have HB := Kp.mk (HB.out.trans (hbl.mono HB.out.size))
        clear hbl
        go_wp2_with fail
        refine (r3.out _ HB.out).mono ?_
        rintro e w' ⟨rfl, hbl⟩
        have HB := Kp.mk (HB.out.trans (hbl.mono HB.out.size))
        clear hbl
        go_wp2_with fail
        refine (r4.out _ HB.out).mono ?_
        rintro e w' ⟨rfl, hbl⟩
        have HB := Kp.mk (HB.out.trans (hbl.mono HB.out.size))
        clear hbl
        go_wp2_with fail
        refine (q1.out _).mono ?_
        rintro e w' ⟨rfl, rfl⟩
        go_wp2_with fail
        refine (q2.out _).mono ?_
        rintro e w' ⟨rfl, rfl⟩
        go_wp2_with fail
        refine (q2.out _).mono ?_
        rintro e w' ⟨rfl, rfl⟩
        go_wp2_with fail
        refine (q3.out _).mono ?_
        rintro e w' ⟨rfl, rfl⟩
        go_wp2_with fail
        refine (r5.out _).mono ?_
        rintro e w' ⟨rfl, rfl⟩
        go_wp2_with fail
        go_roundw
        case rel => exact ⟨j + 1, by omega, by omega, by go_num, by rw [HN.out.1], by rw [HN.out.2.1], by rw [HN.out.1, HN.out.2.1, HN.out.2.2], HB⟩
        case measure => simp [intOf]; omega
    · obtain rfl : j = 4800 := by omega
      have e1 : yrI (-1200 + 4800) = 300 := by decide
      have e2 : moI (-1200 + 4800) = 1 := by decide
      rw [e1, e2]
      have r1 := Kp.mk (fun v (hw : Below w.heap.size w v) => HC.out.add_in (y := -10000000000000000) (m := 1) (k := 240000000000000011) (z := 10000000000000000) (n := 12) v (HI.out v hw) (by decide) (by decide) (by decide) (by decide) (by decide) (by decide) (by decide) (by decide) (by decide) (by decide))
      have r2 := Kp.mk (fun v (hw : Below w.heap.size w v) => HC.out.add_no (y := 10000000000000000) (m := 12) (k := -9223372036854775808) v (HI.out v hw) (by decide) (by decide) (by decide) (by decide) (by decide) (by decide) (by decide) (by decide))
      have r3 := Kp.mk (fun v (hw : Below w.heap.size w v) => HC.out.add_no (y := -10000000000000000) (m := 1) (k := -1) v (HI.out v hw) (by decide) (by decide) (by decide) (by decide) (by decide) (by decide) (by decide) (by decide))
      have r4 := Kp.mk (fun w => refStart_is (y := 300) (v := Sm 300 1) w (by omega) (by omega) (Sm_one 300).symm)
      have q1 := Kp.mk (fun w => month_is 10000000000000000 12 w)
      have rl := Kp.mk (fun v (hw : Below w.heap.size w v) => HC.out.lives v (HI.out v hw))
      generalize Sm 300 1 = d at *
      clear e1 e2 h100
      go_wp2_with fail
      refine (r1.out _ HB.out).mono ?_
      rintro e w' ⟨rfl, hbl⟩
      have HB := Kp.mk (HB.out.trans (hbl.mono HB.out.size))
      clear hbl
      go_wp2_with fail
      refine (r2.out _ HB.out).mono ?_
      rintro e w' ⟨rfl, hbl⟩
      have HB := Kp.mk (HB.out.trans (hbl.mono HB.out.size))
      clear hbl
      go_wp2_with fail
      refine (r3.out _ HB.out).mono ?_
      rintro e w' ⟨rfl, hbl⟩
      have HB := Kp.mk (HB.out.trans (hbl.mono HB.out.size))
      clear hbl
      go_wp2_with fail
      refine (r4.out _).mono ?_
      rintro e w' ⟨rfl, rfl⟩
      go_wp2_with fail
      refine (q1.out _).mono ?_
      rintro e w' ⟨rfl, rfl⟩
      go_wp2_with fail
      refine (rl.out _ HB.out).mono ?_
      rintro e w' ⟨rfl, hbl⟩
      have HB := Kp.mk (HB.out.trans (hbl.mono HB.out.size))
      clear hbl
      go_wp2_with fail
      go_ret
      exact ⟨rfl, HB.out⟩
end Go.Proofs.YtnjhbecmdgjeaaaDoor
