/-
  DERIVED. WALKS of the laws CivilsOf, CivilsOrdinal, given the contracts of package civils. Written by mkciv.py.
-/
import Derived.Test.YtoafigehcgledaaGreatDoorPCvLaws
namespace Go.Proofs.YtoafigehcgledaaGreatDoor
open Go.RowKit

set_option maxRecDepth 100000 in
set_option maxHeartbeats 8000000 in
theorem lawOf_any {I : World → Prop} (C : CivFns I) (n k : Int) (w : World) (hI : I w) (n0 : -9223372036854775808 ≤ n) (n1 : n ≤ 9223372036854775807) (k0 : -9223372036854775808 ≤ k) (k1 : k ≤ 9223372036854775807) :
    Calls Tryz.prog 4 #[.int .i64 n, .int .i64 k] w fun e w' => e = .returned (.bool true) ∧ Below w.heap.size w w' := by
  have HB := Kp.mk (Bl.mk (Below.refl w.heap.size w))
  have HI := Kp.mk (fun (v : World) (h : Below w.heap.size w v) => C.keep hI h)
  clear hI
  have rl := Kp.mk (fun v (hw : Below w.heap.size w v) => C.lives v (HI.out v hw))
  obtain ⟨v, hv⟩ : ∃ v, wday n = v := ⟨_, rfl⟩
  have hvi := wday_in n
  rw [hv] at hvi
  have r2 := Kp.mk (fun w' (hw : Below w.heap.size w w') => C.wday w' (HI.out w' hw) n0 n1 hv)
  have r3 := Kp.mk (fun w => refWday_is w hv)
  have HW : Kp (IntKind.i64.wrap (v + 1) = v + 1) := Kp.mk (IntWalk.i64_in _ (by omega))
  have HT : Kp ((decide (n < 9223372036854775807) = false) ∨ (decide (n < 9223372036854775807) = true ∧ ∃ v2, Int.tmod (v + 1) 7 = v2 ∧ IntKind.i64.wrap (n + 1) = n + 1 ∧
      Kp (∀ w', Below w.heap.size w w' → Calls Tryz.prog 20 #[.int .i64 (n + 1)] w' fun e w'' => e = .returned (.int .i64 v2) ∧ Below w'.heap.size w' w''))) := Kp.mk (by
    by_cases h : n < 9223372036854775807
    · right
      refine ⟨decide_eq_true h, (v + 1) % 7, by rw [Int.tmod_eq_emod_of_nonneg (by omega)], IntWalk.i64_in _ (by omega), Kp.mk (fun w' hw => C.wday w' (HI.out w' hw) (by omega) (by omega) (by rw [wday_succ, hv]))⟩
    · left; exact decide_eq_false h)
  clear hvi
  obtain ⟨y, hyd⟩ := year_exists n
  cases hy : isY y
  · have r1 := Kp.mk (fun w' (hw : Below w.heap.size w w') => C.of_out w' (HI.out w' hw) n0 n1 hyd hy)
    have r4 := Kp.mk (fun w => refOf_is w n0 n1 hyd hy)
    have q1 := Kp.mk (fun w => civil_is 0 0 0 w)
    have q2 := Kp.mk (fun w => gives_bad (e := 6) (by decide) 0 0 0 w)
    clear C hy hyd hv n0 n1 k0 k1
    rcases HT.out with tm | ⟨tm, v2, ht, hw2, rw2⟩
    · clear HT HW
      go_enter Tryz.func4, Tryz.ntmps4
      go_upto_region 1 with fail
      go_wp2_with fail
      refine (r1.out _ HB.out.below).mono ?_
      rintro e u1 ⟨rfl, hbl⟩
      have HB := Kp.mk (HB.out.step hbl)
      clear hbl
      go_upto_region 2 with fail
      have HC := Kp.mk (cv_new 0 0 0 23 HB.out.below)
      have hbl := (Below.refl u1.heap.size u1).alloc (Nat.le_refl _) (.cells #[.int .i64 0, .int .i64 0, .int .i64 0] 23)
      have HB := Kp.mk (HB.out.step hbl)
      clear hbl
      generalize u1.alloc (.cells #[.int .i64 0, .int .i64 0, .int .i64 0] 23) = u2 at *
      generalize u1.heap.size = g1 at *
      have kHC0 := HC.out.c0
      have kHC1 := HC.out.c1
      have kHC2 := HC.out.c2
      go_wp2_with fail
      refine (r2.out _ HB.out.below).mono ?_
      rintro e u3 ⟨rfl, hbl⟩
      clear kHC0 kHC1 kHC2
      have HB := Kp.mk (HB.out.step hbl)
      have HC := Kp.mk (HC.out.step hbl)
      clear hbl
      have kHC0 := HC.out.c0
      have kHC1 := HC.out.c1
      have kHC2 := HC.out.c2
      go_wp2_with fail
      refine (r3.out _).mono ?_
      rintro e w' ⟨rfl, rfl⟩
      go_wp2_with fail
      refine (r4.out _).mono ?_
      rintro e w' ⟨rfl, rfl⟩
      go_wp2_with fail
      go_upto_region 7 with fail
      have hbl := (Below.refl u3.heap.size u3).drew
      have HBz := Kp.mk (HB.out.step hbl)
      have HCz := Kp.mk (HC.out.step hbl)
      clear hbl
      go_region_held3 (fun w' => w'.cell? ⟨g1, 0, none⟩ = some (.int .i64 0) ∧ w'.cell? ⟨g1, 1, none⟩ = some (.int .i64 0) ∧ w'.cell? ⟨g1, 2, none⟩ = some (.int .i64 0)) (first | go_keep | exact ⟨kHC0_u4, kHC1_u4, kHC2_u4⟩ | exact ⟨kHC0_u5, kHC1_u5, kHC2_u5⟩ | exact ⟨kHC0_u6, kHC1_u6, kHC2_u6⟩)
        (first
          | (go_at_call 23; (with_reducible show Calls _ _ _ u3.drew _); refine (q1.out _).mono ?_; rintro e u4 ⟨rfl, hb⟩; have HB_u4 := Kp.mk (HBz.out.step hb); have HC_u4 := Kp.mk (HCz.out.step hb); have kHC0_u4 := HC_u4.out.c0; have kHC1_u4 := HC_u4.out.c1; have kHC2_u4 := HC_u4.out.c2; clear hb)
          | (go_at_call 19; (with_reducible show Calls _ _ _ u4 _); refine (q2.out _).mono ?_; rintro e u5 ⟨rfl, hb⟩; have HB_u5 := Kp.mk (HB_u4.out.step hb); have HC_u5 := Kp.mk (HC_u4.out.step hb); have kHC0_u5 := HC_u5.out.c0; have kHC1_u5 := HC_u5.out.c1; have kHC2_u5 := HC_u5.out.c2; clear hb)
          | (go_at_call 14; (with_reducible show Calls _ _ _ u5 _); refine (rl.out _ HB_u5.out.below).mono ?_; rintro e u6 ⟨rfl, hb⟩; have HB_u6 := Kp.mk (HB_u5.out.step hb); have HC_u6 := Kp.mk (HC_u5.out.step hb); have kHC0_u6 := HC_u6.out.c0; have kHC1_u6 := HC_u6.out.c1; have kHC2_u6 := HC_u6.out.c2; clear hb))
      have HB := HB_u6
      have HC := HC_u6
      have kHC0 := HC.out.c0
      have kHC1 := HC.out.c1
      have kHC2 := HC.out.c2
      go_wp2_with fail
      go_ret
      exact ⟨rfl, HB.out.below⟩
    · have HW2 := HW.out
      clear HT HW
      go_enter Tryz.func4, Tryz.ntmps4
      go_upto_region 1 with fail
      go_wp2_with fail
      refine (r1.out _ HB.out.below).mono ?_
      rintro e u1 ⟨rfl, hbl⟩
      have HB := Kp.mk (HB.out.step hbl)
      clear hbl
      go_upto_region 2 with fail
      have HC := Kp.mk (cv_new 0 0 0 23 HB.out.below)
      have hbl := (Below.refl u1.heap.size u1).alloc (Nat.le_refl _) (.cells #[.int .i64 0, .int .i64 0, .int .i64 0] 23)
      have HB := Kp.mk (HB.out.step hbl)
      clear hbl
      generalize u1.alloc (.cells #[.int .i64 0, .int .i64 0, .int .i64 0] 23) = u2 at *
      generalize u1.heap.size = g1 at *
      have kHC0 := HC.out.c0
      have kHC1 := HC.out.c1
      have kHC2 := HC.out.c2
      go_wp2_with fail
      refine (r2.out _ HB.out.below).mono ?_
      rintro e u3 ⟨rfl, hbl⟩
      clear kHC0 kHC1 kHC2
      have HB := Kp.mk (HB.out.step hbl)
      have HC := Kp.mk (HC.out.step hbl)
      clear hbl
      have kHC0 := HC.out.c0
      have kHC1 := HC.out.c1
      have kHC2 := HC.out.c2
      go_wp2_with fail
      refine (r3.out _).mono ?_
      rintro e w' ⟨rfl, rfl⟩
      go_wp2_with fail
      refine (rw2.out _ HB.out.below).mono ?_
      rintro e u4 ⟨rfl, hbl⟩
      clear kHC0 kHC1 kHC2
      have HB := Kp.mk (HB.out.step hbl)
      have HC := Kp.mk (HC.out.step hbl)
      clear hbl
      have kHC0 := HC.out.c0
      have kHC1 := HC.out.c1
      have kHC2 := HC.out.c2
      go_wp2_with fail
      refine (r4.out _).mono ?_
      rintro e w' ⟨rfl, rfl⟩
      go_wp2_with fail
      go_upto_region 7 with fail
      have hbl := (Below.refl u4.heap.size u4).drew
      have HBz := Kp.mk (HB.out.step hbl)
      have HCz := Kp.mk (HC.out.step hbl)
      clear hbl
      go_region_held3 (fun w' => w'.cell? ⟨g1, 0, none⟩ = some (.int .i64 0) ∧ w'.cell? ⟨g1, 1, none⟩ = some (.int .i64 0) ∧ w'.cell? ⟨g1, 2, none⟩ = some (.int .i64 0)) (first | go_keep | exact ⟨kHC0_u5, kHC1_u5, kHC2_u5⟩ | exact ⟨kHC0_u6, kHC1_u6, kHC2_u6⟩ | exact ⟨kHC0_u7, kHC1_u7, kHC2_u7⟩)
        (first
          | (go_at_call 23; (with_reducible show Calls _ _ _ u4.drew _); refine (q1.out _).mono ?_; rintro e u5 ⟨rfl, hb⟩; have HB_u5 := Kp.mk (HBz.out.step hb); have HC_u5 := Kp.mk (HCz.out.step hb); have kHC0_u5 := HC_u5.out.c0; have kHC1_u5 := HC_u5.out.c1; have kHC2_u5 := HC_u5.out.c2; clear hb)
          | (go_at_call 19; (with_reducible show Calls _ _ _ u5 _); refine (q2.out _).mono ?_; rintro e u6 ⟨rfl, hb⟩; have HB_u6 := Kp.mk (HB_u5.out.step hb); have HC_u6 := Kp.mk (HC_u5.out.step hb); have kHC0_u6 := HC_u6.out.c0; have kHC1_u6 := HC_u6.out.c1; have kHC2_u6 := HC_u6.out.c2; clear hb)
          | (go_at_call 14; (with_reducible show Calls _ _ _ u6 _); refine (rl.out _ HB_u6.out.below).mono ?_; rintro e u7 ⟨rfl, hb⟩; have HB_u7 := Kp.mk (HB_u6.out.step hb); have HC_u7 := Kp.mk (HC_u6.out.step hb); have kHC0_u7 := HC_u7.out.c0; have kHC1_u7 := HC_u7.out.c1; have kHC2_u7 := HC_u7.out.c2; clear hb))
      have HB := HB_u7
      have HC := HC_u7
      have kHC0 := HC.out.c0
      have kHC1 := HC.out.c1
      have kHC2 := HC.out.c2
      go_wp2_with fail
      go_ret
      exact ⟨rfl, HB.out.below⟩
  · obtain ⟨m, d, hR, hD, hmh, hd⟩ := right_ex hyd hy
    have r1 := Kp.mk (fun w' (hw : Below w.heap.size w w') => C.of_in w' (HI.out w' hw) hR hD)
    have r4 := Kp.mk (fun w => refOf_is w n0 n1 hyd hy)
    have r5 := Kp.mk (fun w => refCOf_is w hy hmh)
    rw [hd] at r5
    have q1 := Kp.mk (fun w => gives_ok y m d w)
    have hb := hR.i64
    have r6 := Kp.mk (fun w' (hw : Below w.heap.size w w') => C.check (c := 0) w' (HI.out w' hw) (y := y) (m := m) (d := d) (by omega) (by omega) (by omega) (by omega) (by omega) (by omega) ((chkC_iff y m d).2 hR))
    obtain ⟨y2, hyd2⟩ := year_exists k
    cases hy2 : isY y2
    · have r7 := Kp.mk (fun w' (hw : Below w.heap.size w w') => C.of_out w' (HI.out w' hw) k0 k1 hyd2 hy2)
      clear C hy hyd hv n0 n1 k0 k1 hR hD hmh hd hb hyd2 hy2
      rcases HT.out with tm | ⟨tm, v2, ht, hw2, rw2⟩
      · clear HT HW
        go_enter Tryz.func4, Tryz.ntmps4
        go_upto_region 1 with fail
        go_wp2_with fail
        refine (r1.out _ HB.out.below).mono ?_
        rintro e u1 ⟨rfl, hbl⟩
        have HB := Kp.mk (HB.out.step hbl)
        clear hbl
        go_upto_region 2 with fail
        have HC := Kp.mk (cv_new y m d 23 HB.out.below)
        have hbl := (Below.refl u1.heap.size u1).alloc (Nat.le_refl _) (.cells #[.int .i64 y, .int .i64 m, .int .i64 d] 23)
        have HB := Kp.mk (HB.out.step hbl)
        clear hbl
        generalize u1.alloc (.cells #[.int .i64 y, .int .i64 m, .int .i64 d] 23) = u2 at *
        generalize u1.heap.size = g1 at *
        have kHC0 := HC.out.c0
        have kHC1 := HC.out.c1
        have kHC2 := HC.out.c2
        go_wp2_with fail
        refine (r2.out _ HB.out.below).mono ?_
        rintro e u3 ⟨rfl, hbl⟩
        clear kHC0 kHC1 kHC2
        have HB := Kp.mk (HB.out.step hbl)
        have HC := Kp.mk (HC.out.step hbl)
        clear hbl
        have kHC0 := HC.out.c0
        have kHC1 := HC.out.c1
        have kHC2 := HC.out.c2
        go_wp2_with fail
        refine (r3.out _).mono ?_
        rintro e w' ⟨rfl, rfl⟩
        go_wp2_with fail
        refine (r4.out _).mono ?_
        rintro e w' ⟨rfl, rfl⟩
        go_wp2_with fail
        go_upto_region 8 with fail
        have hbl := (Below.refl u3.heap.size u3).drew
        have HBz := Kp.mk (HB.out.step hbl)
        have HCz := Kp.mk (HC.out.step hbl)
        clear hbl
        go_region_held3 (fun w' => w'.cell? ⟨g1, 0, none⟩ = some (.int .i64 y) ∧ w'.cell? ⟨g1, 1, none⟩ = some (.int .i64 m) ∧ w'.cell? ⟨g1, 2, none⟩ = some (.int .i64 d)) (first | go_keep | exact ⟨kHC0_u4, kHC1_u4, kHC2_u4⟩ | exact ⟨kHC0_u5, kHC1_u5, kHC2_u5⟩ | exact ⟨kHC0_u6, kHC1_u6, kHC2_u6⟩)
          (first
            | (go_at_call 24; (with_reducible show Calls _ _ _ u3.drew _); refine (r5.out _).mono ?_; rintro e u4 ⟨rfl, hb⟩; have HB_u4 := Kp.mk (HBz.out.step hb); have HC_u4 := Kp.mk (HCz.out.step hb); have kHC0_u4 := HC_u4.out.c0; have kHC1_u4 := HC_u4.out.c1; have kHC2_u4 := HC_u4.out.c2; clear hb)
            | (go_at_call 19; (with_reducible show Calls _ _ _ u4 _); refine (q1.out _).mono ?_; rintro e u5 ⟨rfl, hb⟩; have HB_u5 := Kp.mk (HB_u4.out.step hb); have HC_u5 := Kp.mk (HC_u4.out.step hb); have kHC0_u5 := HC_u5.out.c0; have kHC1_u5 := HC_u5.out.c1; have kHC2_u5 := HC_u5.out.c2; clear hb)
            | (go_at_call 13; (with_reducible show Calls _ _ _ u5 _); refine (r6.out _ HB_u5.out.below).mono ?_; rintro e u6 ⟨rfl, hb⟩; have HB_u6 := Kp.mk (HB_u5.out.step hb); have HC_u6 := Kp.mk (HC_u5.out.step hb); have kHC0_u6 := HC_u6.out.c0; have kHC1_u6 := HC_u6.out.c1; have kHC2_u6 := HC_u6.out.c2; clear hb))
        have HB := HB_u6
        have HC := HC_u6
        have kHC0 := HC.out.c0
        have kHC1 := HC.out.c1
        have kHC2 := HC.out.c2
        go_wp2_with fail
        refine (r7.out _ HB.out.below).mono ?_
        rintro e u7 ⟨rfl, hbl⟩
        clear kHC0 kHC1 kHC2
        have HB := Kp.mk (HB.out.step hbl)
        have HC := Kp.mk (HC.out.step hbl)
        clear hbl
        have kHC0 := HC.out.c0
        have kHC1 := HC.out.c1
        have kHC2 := HC.out.c2
        go_upto_region 11 with fail
        clear kHC0 kHC1 kHC2
        have HD := Kp.mk (cv_new 0 0 0 23 HB.out.below)
        have hbl := (Below.refl u7.heap.size u7).alloc (Nat.le_refl _) (.cells #[.int .i64 0, .int .i64 0, .int .i64 0] 23)
        have HB := Kp.mk (HB.out.step hbl)
        have HC := Kp.mk (HC.out.step hbl)
        clear hbl
        generalize u7.alloc (.cells #[.int .i64 0, .int .i64 0, .int .i64 0] 23) = u8 at *
        generalize u7.heap.size = g2 at *
        have kHC0 := HC.out.c0
        have kHC1 := HC.out.c1
        have kHC2 := HC.out.c2
        have kHD0 := HD.out.c0
        have kHD1 := HD.out.c1
        have kHD2 := HD.out.c2
        go_wp2_with fail
        refine (rl.out _ HB.out.below).mono ?_
        rintro e u9 ⟨rfl, hbl⟩
        clear kHC0 kHC1 kHC2 kHD0 kHD1 kHD2
        have HB := Kp.mk (HB.out.step hbl)
        have HC := Kp.mk (HC.out.step hbl)
        have HD := Kp.mk (HD.out.step hbl)
        clear hbl
        have kHC0 := HC.out.c0
        have kHC1 := HC.out.c1
        have kHC2 := HC.out.c2
        have kHD0 := HD.out.c0
        have kHD1 := HD.out.c1
        have kHD2 := HD.out.c2
        go_wp2_with fail
        go_ret
        exact ⟨rfl, HB.out.below⟩
      · have HW2 := HW.out
        clear HT HW
        go_enter Tryz.func4, Tryz.ntmps4
        go_upto_region 1 with fail
        go_wp2_with fail
        refine (r1.out _ HB.out.below).mono ?_
        rintro e u1 ⟨rfl, hbl⟩
        have HB := Kp.mk (HB.out.step hbl)
        clear hbl
        go_upto_region 2 with fail
        have HC := Kp.mk (cv_new y m d 23 HB.out.below)
        have hbl := (Below.refl u1.heap.size u1).alloc (Nat.le_refl _) (.cells #[.int .i64 y, .int .i64 m, .int .i64 d] 23)
        have HB := Kp.mk (HB.out.step hbl)
        clear hbl
        generalize u1.alloc (.cells #[.int .i64 y, .int .i64 m, .int .i64 d] 23) = u2 at *
        generalize u1.heap.size = g1 at *
        have kHC0 := HC.out.c0
        have kHC1 := HC.out.c1
        have kHC2 := HC.out.c2
        go_wp2_with fail
        refine (r2.out _ HB.out.below).mono ?_
        rintro e u3 ⟨rfl, hbl⟩
        clear kHC0 kHC1 kHC2
        have HB := Kp.mk (HB.out.step hbl)
        have HC := Kp.mk (HC.out.step hbl)
        clear hbl
        have kHC0 := HC.out.c0
        have kHC1 := HC.out.c1
        have kHC2 := HC.out.c2
        go_wp2_with fail
        refine (r3.out _).mono ?_
        rintro e w' ⟨rfl, rfl⟩
        go_wp2_with fail
        refine (rw2.out _ HB.out.below).mono ?_
        rintro e u4 ⟨rfl, hbl⟩
        clear kHC0 kHC1 kHC2
        have HB := Kp.mk (HB.out.step hbl)
        have HC := Kp.mk (HC.out.step hbl)
        clear hbl
        have kHC0 := HC.out.c0
        have kHC1 := HC.out.c1
        have kHC2 := HC.out.c2
        go_wp2_with fail
        refine (r4.out _).mono ?_
        rintro e w' ⟨rfl, rfl⟩
        go_wp2_with fail
        go_upto_region 8 with fail
        have hbl := (Below.refl u4.heap.size u4).drew
        have HBz := Kp.mk (HB.out.step hbl)
        have HCz := Kp.mk (HC.out.step hbl)
        clear hbl
        go_region_held3 (fun w' => w'.cell? ⟨g1, 0, none⟩ = some (.int .i64 y) ∧ w'.cell? ⟨g1, 1, none⟩ = some (.int .i64 m) ∧ w'.cell? ⟨g1, 2, none⟩ = some (.int .i64 d)) (first | go_keep | exact ⟨kHC0_u5, kHC1_u5, kHC2_u5⟩ | exact ⟨kHC0_u6, kHC1_u6, kHC2_u6⟩ | exact ⟨kHC0_u7, kHC1_u7, kHC2_u7⟩)
          (first
            | (go_at_call 24; (with_reducible show Calls _ _ _ u4.drew _); refine (r5.out _).mono ?_; rintro e u5 ⟨rfl, hb⟩; have HB_u5 := Kp.mk (HBz.out.step hb); have HC_u5 := Kp.mk (HCz.out.step hb); have kHC0_u5 := HC_u5.out.c0; have kHC1_u5 := HC_u5.out.c1; have kHC2_u5 := HC_u5.out.c2; clear hb)
            | (go_at_call 19; (with_reducible show Calls _ _ _ u5 _); refine (q1.out _).mono ?_; rintro e u6 ⟨rfl, hb⟩; have HB_u6 := Kp.mk (HB_u5.out.step hb); have HC_u6 := Kp.mk (HC_u5.out.step hb); have kHC0_u6 := HC_u6.out.c0; have kHC1_u6 := HC_u6.out.c1; have kHC2_u6 := HC_u6.out.c2; clear hb)
            | (go_at_call 13; (with_reducible show Calls _ _ _ u6 _); refine (r6.out _ HB_u6.out.below).mono ?_; rintro e u7 ⟨rfl, hb⟩; have HB_u7 := Kp.mk (HB_u6.out.step hb); have HC_u7 := Kp.mk (HC_u6.out.step hb); have kHC0_u7 := HC_u7.out.c0; have kHC1_u7 := HC_u7.out.c1; have kHC2_u7 := HC_u7.out.c2; clear hb))
        have HB := HB_u7
        have HC := HC_u7
        have kHC0 := HC.out.c0
        have kHC1 := HC.out.c1
        have kHC2 := HC.out.c2
        go_wp2_with fail
        refine (r7.out _ HB.out.below).mono ?_
        rintro e u8 ⟨rfl, hbl⟩
        clear kHC0 kHC1 kHC2
        have HB := Kp.mk (HB.out.step hbl)
        have HC := Kp.mk (HC.out.step hbl)
        clear hbl
        have kHC0 := HC.out.c0
        have kHC1 := HC.out.c1
        have kHC2 := HC.out.c2
        go_upto_region 11 with fail
        clear kHC0 kHC1 kHC2
        have HD := Kp.mk (cv_new 0 0 0 23 HB.out.below)
        have hbl := (Below.refl u8.heap.size u8).alloc (Nat.le_refl _) (.cells #[.int .i64 0, .int .i64 0, .int .i64 0] 23)
        have HB := Kp.mk (HB.out.step hbl)
        have HC := Kp.mk (HC.out.step hbl)
        clear hbl
        generalize u8.alloc (.cells #[.int .i64 0, .int .i64 0, .int .i64 0] 23) = u9 at *
        generalize u8.heap.size = g2 at *
        have kHC0 := HC.out.c0
        have kHC1 := HC.out.c1
        have kHC2 := HC.out.c2
        have kHD0 := HD.out.c0
        have kHD1 := HD.out.c1
        have kHD2 := HD.out.c2
        go_wp2_with fail
        refine (rl.out _ HB.out.below).mono ?_
        rintro e u10 ⟨rfl, hbl⟩
        clear kHC0 kHC1 kHC2 kHD0 kHD1 kHD2
        have HB := Kp.mk (HB.out.step hbl)
        have HC := Kp.mk (HC.out.step hbl)
        have HD := Kp.mk (HD.out.step hbl)
        clear hbl
        have kHC0 := HC.out.c0
        have kHC1 := HC.out.c1
        have kHC2 := HC.out.c2
        have kHD0 := HD.out.c0
        have kHD1 := HD.out.c1
        have kHD2 := HD.out.c2
        go_wp2_with fail
        go_ret
        exact ⟨rfl, HB.out.below⟩
    · obtain ⟨m2, d2, hR2, hD2, _, _⟩ := right_ex hyd2 hy2
      have hb2 := hR2.i64
      have r7 := Kp.mk (fun w' (hw : Below w.heap.size w w') => C.of_in w' (HI.out w' hw) hR2 hD2)
      obtain ⟨c, hc⟩ : ∃ c, cmpI n k = c := ⟨_, rfl⟩
      have r8 := Kp.mk (fun w' (hw : Below w.heap.size w w') => C.cmp (a := y) (b := m) (c := d) (x := y2) (y := m2) (z := d2) (v := c) w' (HI.out w' hw) (by omega) (by omega) (by omega) (by omega) (by omega) (by omega) (by omega) (by omega) (by omega) (by omega) (by omega) (by omega) (by rw [cmp_days hR hR2, hD, hD2, hc]))
      have hcc := cmpI_cases n k
      rw [hc] at hcc
      clear C hy hyd hv n0 n1 k0 k1 hR hD hmh hd hb hyd2 hy2 hR2 hD2 hb2 hc
      rcases hcc with ⟨hl, rfl⟩ | ⟨he, rfl⟩ | ⟨hg, rfl⟩
      · rcases HT.out with tm | ⟨tm, v2, ht, hw2, rw2⟩
        · clear HT HW
          go_enter Tryz.func4, Tryz.ntmps4
          go_upto_region 1 with fail
          go_wp2_with fail
          refine (r1.out _ HB.out.below).mono ?_
          rintro e u1 ⟨rfl, hbl⟩
          have HB := Kp.mk (HB.out.step hbl)
          clear hbl
          go_upto_region 2 with fail
          have HC := Kp.mk (cv_new y m d 23 HB.out.below)
          have hbl := (Below.refl u1.heap.size u1).alloc (Nat.le_refl _) (.cells #[.int .i64 y, .int .i64 m, .int .i64 d] 23)
          have HB := Kp.mk (HB.out.step hbl)
          clear hbl
          generalize u1.alloc (.cells #[.int .i64 y, .int .i64 m, .int .i64 d] 23) = u2 at *
          generalize u1.heap.size = g1 at *
          have kHC0 := HC.out.c0
          have kHC1 := HC.out.c1
          have kHC2 := HC.out.c2
          go_wp2_with fail
          refine (r2.out _ HB.out.below).mono ?_
          rintro e u3 ⟨rfl, hbl⟩
          clear kHC0 kHC1 kHC2
          have HB := Kp.mk (HB.out.step hbl)
          have HC := Kp.mk (HC.out.step hbl)
          clear hbl
          have kHC0 := HC.out.c0
          have kHC1 := HC.out.c1
          have kHC2 := HC.out.c2
          go_wp2_with fail
          refine (r3.out _).mono ?_
          rintro e w' ⟨rfl, rfl⟩
          go_wp2_with fail
          refine (r4.out _).mono ?_
          rintro e w' ⟨rfl, rfl⟩
          go_wp2_with fail
          go_upto_region 8 with fail
          have hbl := (Below.refl u3.heap.size u3).drew
          have HBz := Kp.mk (HB.out.step hbl)
          have HCz := Kp.mk (HC.out.step hbl)
          clear hbl
          go_region_held3 (fun w' => w'.cell? ⟨g1, 0, none⟩ = some (.int .i64 y) ∧ w'.cell? ⟨g1, 1, none⟩ = some (.int .i64 m) ∧ w'.cell? ⟨g1, 2, none⟩ = some (.int .i64 d)) (first | go_keep | exact ⟨kHC0_u4, kHC1_u4, kHC2_u4⟩ | exact ⟨kHC0_u5, kHC1_u5, kHC2_u5⟩ | exact ⟨kHC0_u6, kHC1_u6, kHC2_u6⟩)
            (first
              | (go_at_call 24; (with_reducible show Calls _ _ _ u3.drew _); refine (r5.out _).mono ?_; rintro e u4 ⟨rfl, hb⟩; have HB_u4 := Kp.mk (HBz.out.step hb); have HC_u4 := Kp.mk (HCz.out.step hb); have kHC0_u4 := HC_u4.out.c0; have kHC1_u4 := HC_u4.out.c1; have kHC2_u4 := HC_u4.out.c2; clear hb)
              | (go_at_call 19; (with_reducible show Calls _ _ _ u4 _); refine (q1.out _).mono ?_; rintro e u5 ⟨rfl, hb⟩; have HB_u5 := Kp.mk (HB_u4.out.step hb); have HC_u5 := Kp.mk (HC_u4.out.step hb); have kHC0_u5 := HC_u5.out.c0; have kHC1_u5 := HC_u5.out.c1; have kHC2_u5 := HC_u5.out.c2; clear hb)
              | (go_at_call 13; (with_reducible show Calls _ _ _ u5 _); refine (r6.out _ HB_u5.out.below).mono ?_; rintro e u6 ⟨rfl, hb⟩; have HB_u6 := Kp.mk (HB_u5.out.step hb); have HC_u6 := Kp.mk (HC_u5.out.step hb); have kHC0_u6 := HC_u6.out.c0; have kHC1_u6 := HC_u6.out.c1; have kHC2_u6 := HC_u6.out.c2; clear hb))
          have HB := HB_u6
          have HC := HC_u6
          have kHC0 := HC.out.c0
          have kHC1 := HC.out.c1
          have kHC2 := HC.out.c2
          go_wp2_with fail
          refine (r7.out _ HB.out.below).mono ?_
          rintro e u7 ⟨rfl, hbl⟩
          clear kHC0 kHC1 kHC2
          have HB := Kp.mk (HB.out.step hbl)
          have HC := Kp.mk (HC.out.step hbl)
          clear hbl
          have kHC0 := HC.out.c0
          have kHC1 := HC.out.c1
          have kHC2 := HC.out.c2
          go_upto_region 11 with fail
          clear kHC0 kHC1 kHC2
          have HD := Kp.mk (cv_new y2 m2 d2 23 HB.out.below)
          have hbl := (Below.refl u7.heap.size u7).alloc (Nat.le_refl _) (.cells #[.int .i64 y2, .int .i64 m2, .int .i64 d2] 23)
          have HB := Kp.mk (HB.out.step hbl)
          have HC := Kp.mk (HC.out.step hbl)
          clear hbl
          generalize u7.alloc (.cells #[.int .i64 y2, .int .i64 m2, .int .i64 d2] 23) = u8 at *
          generalize u7.heap.size = g2 at *
          have kHC0 := HC.out.c0
          have kHC1 := HC.out.c1
          have kHC2 := HC.out.c2
          have kHD0 := HD.out.c0
          have kHD1 := HD.out.c1
          have kHD2 := HD.out.c2
          go_wp2_with fail
          refine (r8.out _ HB.out.below).mono ?_
          rintro e u9 ⟨rfl, hbl⟩
          clear kHC0 kHC1 kHC2 kHD0 kHD1 kHD2
          have HB := Kp.mk (HB.out.step hbl)
          have HC := Kp.mk (HC.out.step hbl)
          have HD := Kp.mk (HD.out.step hbl)
          clear hbl
          have kHC0 := HC.out.c0
          have kHC1 := HC.out.c1
          have kHC2 := HC.out.c2
          have kHD0 := HD.out.c0
          have kHD1 := HD.out.c1
          have kHD2 := HD.out.c2
          go_wp2_with fail
          refine (rl.out _ HB.out.below).mono ?_
          rintro e u10 ⟨rfl, hbl⟩
          clear kHC0 kHC1 kHC2 kHD0 kHD1 kHD2
          have HB := Kp.mk (HB.out.step hbl)
          have HC := Kp.mk (HC.out.step hbl)
          have HD := Kp.mk (HD.out.step hbl)
          clear hbl
          have kHC0 := HC.out.c0
          have kHC1 := HC.out.c1
          have kHC2 := HC.out.c2
          have kHD0 := HD.out.c0
          have kHD1 := HD.out.c1
          have kHD2 := HD.out.c2
          go_wp2_with fail
          go_ret
          exact ⟨rfl, HB.out.below⟩
        · have HW2 := HW.out
          clear HT HW
          go_enter Tryz.func4, Tryz.ntmps4
          go_upto_region 1 with fail
          go_wp2_with fail
          refine (r1.out _ HB.out.below).mono ?_
          rintro e u1 ⟨rfl, hbl⟩
          have HB := Kp.mk (HB.out.step hbl)
          clear hbl
          go_upto_region 2 with fail
          have HC := Kp.mk (cv_new y m d 23 HB.out.below)
          have hbl := (Below.refl u1.heap.size u1).alloc (Nat.le_refl _) (.cells #[.int .i64 y, .int .i64 m, .int .i64 d] 23)
          have HB := Kp.mk (HB.out.step hbl)
          clear hbl
          generalize u1.alloc (.cells #[.int .i64 y, .int .i64 m, .int .i64 d] 23) = u2 at *
          generalize u1.heap.size = g1 at *
          have kHC0 := HC.out.c0
          have kHC1 := HC.out.c1
          have kHC2 := HC.out.c2
          go_wp2_with fail
          refine (r2.out _ HB.out.below).mono ?_
          rintro e u3 ⟨rfl, hbl⟩
          clear kHC0 kHC1 kHC2
          have HB := Kp.mk (HB.out.step hbl)
          have HC := Kp.mk (HC.out.step hbl)
          clear hbl
          have kHC0 := HC.out.c0
          have kHC1 := HC.out.c1
          have kHC2 := HC.out.c2
          go_wp2_with fail
          refine (r3.out _).mono ?_
          rintro e w' ⟨rfl, rfl⟩
          go_wp2_with fail
          refine (rw2.out _ HB.out.below).mono ?_
          rintro e u4 ⟨rfl, hbl⟩
          clear kHC0 kHC1 kHC2
          have HB := Kp.mk (HB.out.step hbl)
          have HC := Kp.mk (HC.out.step hbl)
          clear hbl
          have kHC0 := HC.out.c0
          have kHC1 := HC.out.c1
          have kHC2 := HC.out.c2
          go_wp2_with fail
          refine (r4.out _).mono ?_
          rintro e w' ⟨rfl, rfl⟩
          go_wp2_with fail
          go_upto_region 8 with fail
          have hbl := (Below.refl u4.heap.size u4).drew
          have HBz := Kp.mk (HB.out.step hbl)
          have HCz := Kp.mk (HC.out.step hbl)
          clear hbl
          go_region_held3 (fun w' => w'.cell? ⟨g1, 0, none⟩ = some (.int .i64 y) ∧ w'.cell? ⟨g1, 1, none⟩ = some (.int .i64 m) ∧ w'.cell? ⟨g1, 2, none⟩ = some (.int .i64 d)) (first | go_keep | exact ⟨kHC0_u5, kHC1_u5, kHC2_u5⟩ | exact ⟨kHC0_u6, kHC1_u6, kHC2_u6⟩ | exact ⟨kHC0_u7, kHC1_u7, kHC2_u7⟩)
            (first
              | (go_at_call 24; (with_reducible show Calls _ _ _ u4.drew _); refine (r5.out _).mono ?_; rintro e u5 ⟨rfl, hb⟩; have HB_u5 := Kp.mk (HBz.out.step hb); have HC_u5 := Kp.mk (HCz.out.step hb); have kHC0_u5 := HC_u5.out.c0; have kHC1_u5 := HC_u5.out.c1; have kHC2_u5 := HC_u5.out.c2; clear hb)
              | (go_at_call 19; (with_reducible show Calls _ _ _ u5 _); refine (q1.out _).mono ?_; rintro e u6 ⟨rfl, hb⟩; have HB_u6 := Kp.mk (HB_u5.out.step hb); have HC_u6 := Kp.mk (HC_u5.out.step hb); have kHC0_u6 := HC_u6.out.c0; have kHC1_u6 := HC_u6.out.c1; have kHC2_u6 := HC_u6.out.c2; clear hb)
              | (go_at_call 13; (with_reducible show Calls _ _ _ u6 _); refine (r6.out _ HB_u6.out.below).mono ?_; rintro e u7 ⟨rfl, hb⟩; have HB_u7 := Kp.mk (HB_u6.out.step hb); have HC_u7 := Kp.mk (HC_u6.out.step hb); have kHC0_u7 := HC_u7.out.c0; have kHC1_u7 := HC_u7.out.c1; have kHC2_u7 := HC_u7.out.c2; clear hb))
          have HB := HB_u7
          have HC := HC_u7
          have kHC0 := HC.out.c0
          have kHC1 := HC.out.c1
          have kHC2 := HC.out.c2
          go_wp2_with fail
          refine (r7.out _ HB.out.below).mono ?_
          rintro e u8 ⟨rfl, hbl⟩
          clear kHC0 kHC1 kHC2
          have HB := Kp.mk (HB.out.step hbl)
          have HC := Kp.mk (HC.out.step hbl)
          clear hbl
          have kHC0 := HC.out.c0
          have kHC1 := HC.out.c1
          have kHC2 := HC.out.c2
          go_upto_region 11 with fail
          clear kHC0 kHC1 kHC2
          have HD := Kp.mk (cv_new y2 m2 d2 23 HB.out.below)
          have hbl := (Below.refl u8.heap.size u8).alloc (Nat.le_refl _) (.cells #[.int .i64 y2, .int .i64 m2, .int .i64 d2] 23)
          have HB := Kp.mk (HB.out.step hbl)
          have HC := Kp.mk (HC.out.step hbl)
          clear hbl
          generalize u8.alloc (.cells #[.int .i64 y2, .int .i64 m2, .int .i64 d2] 23) = u9 at *
          generalize u8.heap.size = g2 at *
          have kHC0 := HC.out.c0
          have kHC1 := HC.out.c1
          have kHC2 := HC.out.c2
          have kHD0 := HD.out.c0
          have kHD1 := HD.out.c1
          have kHD2 := HD.out.c2
          go_wp2_with fail
          refine (r8.out _ HB.out.below).mono ?_
          rintro e u10 ⟨rfl, hbl⟩
          clear kHC0 kHC1 kHC2 kHD0 kHD1 kHD2
          have HB := Kp.mk (HB.out.step hbl)
          have HC := Kp.mk (HC.out.step hbl)
          have HD := Kp.mk (HD.out.step hbl)
          clear hbl
          have kHC0 := HC.out.c0
          have kHC1 := HC.out.c1
          have kHC2 := HC.out.c2
          have kHD0 := HD.out.c0
          have kHD1 := HD.out.c1
          have kHD2 := HD.out.c2
          go_wp2_with fail
          refine (rl.out _ HB.out.below).mono ?_
          rintro e u11 ⟨rfl, hbl⟩
          clear kHC0 kHC1 kHC2 kHD0 kHD1 kHD2
          have HB := Kp.mk (HB.out.step hbl)
          have HC := Kp.mk (HC.out.step hbl)
          have HD := Kp.mk (HD.out.step hbl)
          clear hbl
          have kHC0 := HC.out.c0
          have kHC1 := HC.out.c1
          have kHC2 := HC.out.c2
          have kHD0 := HD.out.c0
          have kHD1 := HD.out.c1
          have kHD2 := HD.out.c2
          go_wp2_with fail
          go_ret
          exact ⟨rfl, HB.out.below⟩
      · have nl : ¬ n < k := by omega
        have ng : ¬ k < n := by omega
        clear he
        rcases HT.out with tm | ⟨tm, v2, ht, hw2, rw2⟩
        · clear HT HW
          go_enter Tryz.func4, Tryz.ntmps4
          go_upto_region 1 with fail
          go_wp2_with fail
          refine (r1.out _ HB.out.below).mono ?_
          rintro e u1 ⟨rfl, hbl⟩
          have HB := Kp.mk (HB.out.step hbl)
          clear hbl
          go_upto_region 2 with fail
          have HC := Kp.mk (cv_new y m d 23 HB.out.below)
          have hbl := (Below.refl u1.heap.size u1).alloc (Nat.le_refl _) (.cells #[.int .i64 y, .int .i64 m, .int .i64 d] 23)
          have HB := Kp.mk (HB.out.step hbl)
          clear hbl
          generalize u1.alloc (.cells #[.int .i64 y, .int .i64 m, .int .i64 d] 23) = u2 at *
          generalize u1.heap.size = g1 at *
          have kHC0 := HC.out.c0
          have kHC1 := HC.out.c1
          have kHC2 := HC.out.c2
          go_wp2_with fail
          refine (r2.out _ HB.out.below).mono ?_
          rintro e u3 ⟨rfl, hbl⟩
          clear kHC0 kHC1 kHC2
          have HB := Kp.mk (HB.out.step hbl)
          have HC := Kp.mk (HC.out.step hbl)
          clear hbl
          have kHC0 := HC.out.c0
          have kHC1 := HC.out.c1
          have kHC2 := HC.out.c2
          go_wp2_with fail
          refine (r3.out _).mono ?_
          rintro e w' ⟨rfl, rfl⟩
          go_wp2_with fail
          refine (r4.out _).mono ?_
          rintro e w' ⟨rfl, rfl⟩
          go_wp2_with fail
          go_upto_region 8 with fail
          have hbl := (Below.refl u3.heap.size u3).drew
          have HBz := Kp.mk (HB.out.step hbl)
          have HCz := Kp.mk (HC.out.step hbl)
          clear hbl
          go_region_held3 (fun w' => w'.cell? ⟨g1, 0, none⟩ = some (.int .i64 y) ∧ w'.cell? ⟨g1, 1, none⟩ = some (.int .i64 m) ∧ w'.cell? ⟨g1, 2, none⟩ = some (.int .i64 d)) (first | go_keep | exact ⟨kHC0_u4, kHC1_u4, kHC2_u4⟩ | exact ⟨kHC0_u5, kHC1_u5, kHC2_u5⟩ | exact ⟨kHC0_u6, kHC1_u6, kHC2_u6⟩)
            (first
              | (go_at_call 24; (with_reducible show Calls _ _ _ u3.drew _); refine (r5.out _).mono ?_; rintro e u4 ⟨rfl, hb⟩; have HB_u4 := Kp.mk (HBz.out.step hb); have HC_u4 := Kp.mk (HCz.out.step hb); have kHC0_u4 := HC_u4.out.c0; have kHC1_u4 := HC_u4.out.c1; have kHC2_u4 := HC_u4.out.c2; clear hb)
              | (go_at_call 19; (with_reducible show Calls _ _ _ u4 _); refine (q1.out _).mono ?_; rintro e u5 ⟨rfl, hb⟩; have HB_u5 := Kp.mk (HB_u4.out.step hb); have HC_u5 := Kp.mk (HC_u4.out.step hb); have kHC0_u5 := HC_u5.out.c0; have kHC1_u5 := HC_u5.out.c1; have kHC2_u5 := HC_u5.out.c2; clear hb)
              | (go_at_call 13; (with_reducible show Calls _ _ _ u5 _); refine (r6.out _ HB_u5.out.below).mono ?_; rintro e u6 ⟨rfl, hb⟩; have HB_u6 := Kp.mk (HB_u5.out.step hb); have HC_u6 := Kp.mk (HC_u5.out.step hb); have kHC0_u6 := HC_u6.out.c0; have kHC1_u6 := HC_u6.out.c1; have kHC2_u6 := HC_u6.out.c2; clear hb))
          have HB := HB_u6
          have HC := HC_u6
          have kHC0 := HC.out.c0
          have kHC1 := HC.out.c1
          have kHC2 := HC.out.c2
          go_wp2_with fail
          refine (r7.out _ HB.out.below).mono ?_
          rintro e u7 ⟨rfl, hbl⟩
          clear kHC0 kHC1 kHC2
          have HB := Kp.mk (HB.out.step hbl)
          have HC := Kp.mk (HC.out.step hbl)
          clear hbl
          have kHC0 := HC.out.c0
          have kHC1 := HC.out.c1
          have kHC2 := HC.out.c2
          go_upto_region 11 with fail
          clear kHC0 kHC1 kHC2
          have HD := Kp.mk (cv_new y2 m2 d2 23 HB.out.below)
          have hbl := (Below.refl u7.heap.size u7).alloc (Nat.le_refl _) (.cells #[.int .i64 y2, .int .i64 m2, .int .i64 d2] 23)
          have HB := Kp.mk (HB.out.step hbl)
          have HC := Kp.mk (HC.out.step hbl)
          clear hbl
          generalize u7.alloc (.cells #[.int .i64 y2, .int .i64 m2, .int .i64 d2] 23) = u8 at *
          generalize u7.heap.size = g2 at *
          have kHC0 := HC.out.c0
          have kHC1 := HC.out.c1
          have kHC2 := HC.out.c2
          have kHD0 := HD.out.c0
          have kHD1 := HD.out.c1
          have kHD2 := HD.out.c2
          go_wp2_with fail
          refine (r8.out _ HB.out.below).mono ?_
          rintro e u9 ⟨rfl, hbl⟩
          clear kHC0 kHC1 kHC2 kHD0 kHD1 kHD2
          have HB := Kp.mk (HB.out.step hbl)
          have HC := Kp.mk (HC.out.step hbl)
          have HD := Kp.mk (HD.out.step hbl)
          clear hbl
          have kHC0 := HC.out.c0
          have kHC1 := HC.out.c1
          have kHC2 := HC.out.c2
          have kHD0 := HD.out.c0
          have kHD1 := HD.out.c1
          have kHD2 := HD.out.c2
          go_wp2_with fail
          refine (rl.out _ HB.out.below).mono ?_
          rintro e u10 ⟨rfl, hbl⟩
          clear kHC0 kHC1 kHC2 kHD0 kHD1 kHD2
          have HB := Kp.mk (HB.out.step hbl)
          have HC := Kp.mk (HC.out.step hbl)
          have HD := Kp.mk (HD.out.step hbl)
          clear hbl
          have kHC0 := HC.out.c0
          have kHC1 := HC.out.c1
          have kHC2 := HC.out.c2
          have kHD0 := HD.out.c0
          have kHD1 := HD.out.c1
          have kHD2 := HD.out.c2
          go_wp2_with fail
          go_ret
          exact ⟨rfl, HB.out.below⟩
        · have HW2 := HW.out
          clear HT HW
          go_enter Tryz.func4, Tryz.ntmps4
          go_upto_region 1 with fail
          go_wp2_with fail
          refine (r1.out _ HB.out.below).mono ?_
          rintro e u1 ⟨rfl, hbl⟩
          have HB := Kp.mk (HB.out.step hbl)
          clear hbl
          go_upto_region 2 with fail
          have HC := Kp.mk (cv_new y m d 23 HB.out.below)
          have hbl := (Below.refl u1.heap.size u1).alloc (Nat.le_refl _) (.cells #[.int .i64 y, .int .i64 m, .int .i64 d] 23)
          have HB := Kp.mk (HB.out.step hbl)
          clear hbl
          generalize u1.alloc (.cells #[.int .i64 y, .int .i64 m, .int .i64 d] 23) = u2 at *
          generalize u1.heap.size = g1 at *
          have kHC0 := HC.out.c0
          have kHC1 := HC.out.c1
          have kHC2 := HC.out.c2
          go_wp2_with fail
          refine (r2.out _ HB.out.below).mono ?_
          rintro e u3 ⟨rfl, hbl⟩
          clear kHC0 kHC1 kHC2
          have HB := Kp.mk (HB.out.step hbl)
          have HC := Kp.mk (HC.out.step hbl)
          clear hbl
          have kHC0 := HC.out.c0
          have kHC1 := HC.out.c1
          have kHC2 := HC.out.c2
          go_wp2_with fail
          refine (r3.out _).mono ?_
          rintro e w' ⟨rfl, rfl⟩
          go_wp2_with fail
          refine (rw2.out _ HB.out.below).mono ?_
          rintro e u4 ⟨rfl, hbl⟩
          clear kHC0 kHC1 kHC2
          have HB := Kp.mk (HB.out.step hbl)
          have HC := Kp.mk (HC.out.step hbl)
          clear hbl
          have kHC0 := HC.out.c0
          have kHC1 := HC.out.c1
          have kHC2 := HC.out.c2
          go_wp2_with fail
          refine (r4.out _).mono ?_
          rintro e w' ⟨rfl, rfl⟩
          go_wp2_with fail
          go_upto_region 8 with fail
          have hbl := (Below.refl u4.heap.size u4).drew
          have HBz := Kp.mk (HB.out.step hbl)
          have HCz := Kp.mk (HC.out.step hbl)
          clear hbl
          go_region_held3 (fun w' => w'.cell? ⟨g1, 0, none⟩ = some (.int .i64 y) ∧ w'.cell? ⟨g1, 1, none⟩ = some (.int .i64 m) ∧ w'.cell? ⟨g1, 2, none⟩ = some (.int .i64 d)) (first | go_keep | exact ⟨kHC0_u5, kHC1_u5, kHC2_u5⟩ | exact ⟨kHC0_u6, kHC1_u6, kHC2_u6⟩ | exact ⟨kHC0_u7, kHC1_u7, kHC2_u7⟩)
            (first
              | (go_at_call 24; (with_reducible show Calls _ _ _ u4.drew _); refine (r5.out _).mono ?_; rintro e u5 ⟨rfl, hb⟩; have HB_u5 := Kp.mk (HBz.out.step hb); have HC_u5 := Kp.mk (HCz.out.step hb); have kHC0_u5 := HC_u5.out.c0; have kHC1_u5 := HC_u5.out.c1; have kHC2_u5 := HC_u5.out.c2; clear hb)
              | (go_at_call 19; (with_reducible show Calls _ _ _ u5 _); refine (q1.out _).mono ?_; rintro e u6 ⟨rfl, hb⟩; have HB_u6 := Kp.mk (HB_u5.out.step hb); have HC_u6 := Kp.mk (HC_u5.out.step hb); have kHC0_u6 := HC_u6.out.c0; have kHC1_u6 := HC_u6.out.c1; have kHC2_u6 := HC_u6.out.c2; clear hb)
              | (go_at_call 13; (with_reducible show Calls _ _ _ u6 _); refine (r6.out _ HB_u6.out.below).mono ?_; rintro e u7 ⟨rfl, hb⟩; have HB_u7 := Kp.mk (HB_u6.out.step hb); have HC_u7 := Kp.mk (HC_u6.out.step hb); have kHC0_u7 := HC_u7.out.c0; have kHC1_u7 := HC_u7.out.c1; have kHC2_u7 := HC_u7.out.c2; clear hb))
          have HB := HB_u7
          have HC := HC_u7
          have kHC0 := HC.out.c0
          have kHC1 := HC.out.c1
          have kHC2 := HC.out.c2
          go_wp2_with fail
          refine (r7.out _ HB.out.below).mono ?_
          rintro e u8 ⟨rfl, hbl⟩
          clear kHC0 kHC1 kHC2
          have HB := Kp.mk (HB.out.step hbl)
          have HC := Kp.mk (HC.out.step hbl)
          clear hbl
          have kHC0 := HC.out.c0
          have kHC1 := HC.out.c1
          have kHC2 := HC.out.c2
          go_upto_region 11 with fail
          clear kHC0 kHC1 kHC2
          have HD := Kp.mk (cv_new y2 m2 d2 23 HB.out.below)
          have hbl := (Below.refl u8.heap.size u8).alloc (Nat.le_refl _) (.cells #[.int .i64 y2, .int .i64 m2, .int .i64 d2] 23)
          have HB := Kp.mk (HB.out.step hbl)
          have HC := Kp.mk (HC.out.step hbl)
          clear hbl
          generalize u8.alloc (.cells #[.int .i64 y2, .int .i64 m2, .int .i64 d2] 23) = u9 at *
          generalize u8.heap.size = g2 at *
          have kHC0 := HC.out.c0
          have kHC1 := HC.out.c1
          have kHC2 := HC.out.c2
          have kHD0 := HD.out.c0
          have kHD1 := HD.out.c1
          have kHD2 := HD.out.c2
          go_wp2_with fail
          refine (r8.out _ HB.out.below).mono ?_
          rintro e u10 ⟨rfl, hbl⟩
          clear kHC0 kHC1 kHC2 kHD0 kHD1 kHD2
          have HB := Kp.mk (HB.out.step hbl)
          have HC := Kp.mk (HC.out.step hbl)
          have HD := Kp.mk (HD.out.step hbl)
          clear hbl
          have kHC0 := HC.out.c0
          have kHC1 := HC.out.c1
          have kHC2 := HC.out.c2
          have kHD0 := HD.out.c0
          have kHD1 := HD.out.c1
          have kHD2 := HD.out.c2
          go_wp2_with fail
          refine (rl.out _ HB.out.below).mono ?_
          rintro e u11 ⟨rfl, hbl⟩
          clear kHC0 kHC1 kHC2 kHD0 kHD1 kHD2
          have HB := Kp.mk (HB.out.step hbl)
          have HC := Kp.mk (HC.out.step hbl)
          have HD := Kp.mk (HD.out.step hbl)
          clear hbl
          have kHC0 := HC.out.c0
          have kHC1 := HC.out.c1
          have kHC2 := HC.out.c2
          have kHD0 := HD.out.c0
          have kHD1 := HD.out.c1
          have kHD2 := HD.out.c2
          go_wp2_with fail
          go_ret
          exact ⟨rfl, HB.out.below⟩
      · have nl : ¬ n < k := by omega
        rcases HT.out with tm | ⟨tm, v2, ht, hw2, rw2⟩
        · clear HT HW
          go_enter Tryz.func4, Tryz.ntmps4
          go_upto_region 1 with fail
          go_wp2_with fail
          refine (r1.out _ HB.out.below).mono ?_
          rintro e u1 ⟨rfl, hbl⟩
          have HB := Kp.mk (HB.out.step hbl)
          clear hbl
          go_upto_region 2 with fail
          have HC := Kp.mk (cv_new y m d 23 HB.out.below)
          have hbl := (Below.refl u1.heap.size u1).alloc (Nat.le_refl _) (.cells #[.int .i64 y, .int .i64 m, .int .i64 d] 23)
          have HB := Kp.mk (HB.out.step hbl)
          clear hbl
          generalize u1.alloc (.cells #[.int .i64 y, .int .i64 m, .int .i64 d] 23) = u2 at *
          generalize u1.heap.size = g1 at *
          have kHC0 := HC.out.c0
          have kHC1 := HC.out.c1
          have kHC2 := HC.out.c2
          go_wp2_with fail
          refine (r2.out _ HB.out.below).mono ?_
          rintro e u3 ⟨rfl, hbl⟩
          clear kHC0 kHC1 kHC2
          have HB := Kp.mk (HB.out.step hbl)
          have HC := Kp.mk (HC.out.step hbl)
          clear hbl
          have kHC0 := HC.out.c0
          have kHC1 := HC.out.c1
          have kHC2 := HC.out.c2
          go_wp2_with fail
          refine (r3.out _).mono ?_
          rintro e w' ⟨rfl, rfl⟩
          go_wp2_with fail
          refine (r4.out _).mono ?_
          rintro e w' ⟨rfl, rfl⟩
          go_wp2_with fail
          go_upto_region 8 with fail
          have hbl := (Below.refl u3.heap.size u3).drew
          have HBz := Kp.mk (HB.out.step hbl)
          have HCz := Kp.mk (HC.out.step hbl)
          clear hbl
          go_region_held3 (fun w' => w'.cell? ⟨g1, 0, none⟩ = some (.int .i64 y) ∧ w'.cell? ⟨g1, 1, none⟩ = some (.int .i64 m) ∧ w'.cell? ⟨g1, 2, none⟩ = some (.int .i64 d)) (first | go_keep | exact ⟨kHC0_u4, kHC1_u4, kHC2_u4⟩ | exact ⟨kHC0_u5, kHC1_u5, kHC2_u5⟩ | exact ⟨kHC0_u6, kHC1_u6, kHC2_u6⟩)
            (first
              | (go_at_call 24; (with_reducible show Calls _ _ _ u3.drew _); refine (r5.out _).mono ?_; rintro e u4 ⟨rfl, hb⟩; have HB_u4 := Kp.mk (HBz.out.step hb); have HC_u4 := Kp.mk (HCz.out.step hb); have kHC0_u4 := HC_u4.out.c0; have kHC1_u4 := HC_u4.out.c1; have kHC2_u4 := HC_u4.out.c2; clear hb)
              | (go_at_call 19; (with_reducible show Calls _ _ _ u4 _); refine (q1.out _).mono ?_; rintro e u5 ⟨rfl, hb⟩; have HB_u5 := Kp.mk (HB_u4.out.step hb); have HC_u5 := Kp.mk (HC_u4.out.step hb); have kHC0_u5 := HC_u5.out.c0; have kHC1_u5 := HC_u5.out.c1; have kHC2_u5 := HC_u5.out.c2; clear hb)
              | (go_at_call 13; (with_reducible show Calls _ _ _ u5 _); refine (r6.out _ HB_u5.out.below).mono ?_; rintro e u6 ⟨rfl, hb⟩; have HB_u6 := Kp.mk (HB_u5.out.step hb); have HC_u6 := Kp.mk (HC_u5.out.step hb); have kHC0_u6 := HC_u6.out.c0; have kHC1_u6 := HC_u6.out.c1; have kHC2_u6 := HC_u6.out.c2; clear hb))
          have HB := HB_u6
          have HC := HC_u6
          have kHC0 := HC.out.c0
          have kHC1 := HC.out.c1
          have kHC2 := HC.out.c2
          go_wp2_with fail
          refine (r7.out _ HB.out.below).mono ?_
          rintro e u7 ⟨rfl, hbl⟩
          clear kHC0 kHC1 kHC2
          have HB := Kp.mk (HB.out.step hbl)
          have HC := Kp.mk (HC.out.step hbl)
          clear hbl
          have kHC0 := HC.out.c0
          have kHC1 := HC.out.c1
          have kHC2 := HC.out.c2
          go_upto_region 11 with fail
          clear kHC0 kHC1 kHC2
          have HD := Kp.mk (cv_new y2 m2 d2 23 HB.out.below)
          have hbl := (Below.refl u7.heap.size u7).alloc (Nat.le_refl _) (.cells #[.int .i64 y2, .int .i64 m2, .int .i64 d2] 23)
          have HB := Kp.mk (HB.out.step hbl)
          have HC := Kp.mk (HC.out.step hbl)
          clear hbl
          generalize u7.alloc (.cells #[.int .i64 y2, .int .i64 m2, .int .i64 d2] 23) = u8 at *
          generalize u7.heap.size = g2 at *
          have kHC0 := HC.out.c0
          have kHC1 := HC.out.c1
          have kHC2 := HC.out.c2
          have kHD0 := HD.out.c0
          have kHD1 := HD.out.c1
          have kHD2 := HD.out.c2
          go_wp2_with fail
          refine (r8.out _ HB.out.below).mono ?_
          rintro e u9 ⟨rfl, hbl⟩
          clear kHC0 kHC1 kHC2 kHD0 kHD1 kHD2
          have HB := Kp.mk (HB.out.step hbl)
          have HC := Kp.mk (HC.out.step hbl)
          have HD := Kp.mk (HD.out.step hbl)
          clear hbl
          have kHC0 := HC.out.c0
          have kHC1 := HC.out.c1
          have kHC2 := HC.out.c2
          have kHD0 := HD.out.c0
          have kHD1 := HD.out.c1
          have kHD2 := HD.out.c2
          go_wp2_with fail
          refine (rl.out _ HB.out.below).mono ?_
          rintro e u10 ⟨rfl, hbl⟩
          clear kHC0 kHC1 kHC2 kHD0 kHD1 kHD2
          have HB := Kp.mk (HB.out.step hbl)
          have HC := Kp.mk (HC.out.step hbl)
          have HD := Kp.mk (HD.out.step hbl)
          clear hbl
          have kHC0 := HC.out.c0
          have kHC1 := HC.out.c1
          have kHC2 := HC.out.c2
          have kHD0 := HD.out.c0
          have kHD1 := HD.out.c1
          have kHD2 := HD.out.c2
          go_wp2_with fail
          go_ret
          exact ⟨rfl, HB.out.below⟩
        · have HW2 := HW.out
          clear HT HW
          go_enter Tryz.func4, Tryz.ntmps4
          go_upto_region 1 with fail
          go_wp2_with fail
          refine (r1.out _ HB.out.below).mono ?_
          rintro e u1 ⟨rfl, hbl⟩
          have HB := Kp.mk (HB.out.step hbl)
          clear hbl
          go_upto_region 2 with fail
          have HC := Kp.mk (cv_new y m d 23 HB.out.below)
          have hbl := (Below.refl u1.heap.size u1).alloc (Nat.le_refl _) (.cells #[.int .i64 y, .int .i64 m, .int .i64 d] 23)
          have HB := Kp.mk (HB.out.step hbl)
          clear hbl
          generalize u1.alloc (.cells #[.int .i64 y, .int .i64 m, .int .i64 d] 23) = u2 at *
          generalize u1.heap.size = g1 at *
          have kHC0 := HC.out.c0
          have kHC1 := HC.out.c1
          have kHC2 := HC.out.c2
          go_wp2_with fail
          refine (r2.out _ HB.out.below).mono ?_
          rintro e u3 ⟨rfl, hbl⟩
          clear kHC0 kHC1 kHC2
          have HB := Kp.mk (HB.out.step hbl)
          have HC := Kp.mk (HC.out.step hbl)
          clear hbl
          have kHC0 := HC.out.c0
          have kHC1 := HC.out.c1
          have kHC2 := HC.out.c2
          go_wp2_with fail
          refine (r3.out _).mono ?_
          rintro e w' ⟨rfl, rfl⟩
          go_wp2_with fail
          refine (rw2.out _ HB.out.below).mono ?_
          rintro e u4 ⟨rfl, hbl⟩
          clear kHC0 kHC1 kHC2
          have HB := Kp.mk (HB.out.step hbl)
          have HC := Kp.mk (HC.out.step hbl)
          clear hbl
          have kHC0 := HC.out.c0
          have kHC1 := HC.out.c1
          have kHC2 := HC.out.c2
          go_wp2_with fail
          refine (r4.out _).mono ?_
          rintro e w' ⟨rfl, rfl⟩
          go_wp2_with fail
          go_upto_region 8 with fail
          have hbl := (Below.refl u4.heap.size u4).drew
          have HBz := Kp.mk (HB.out.step hbl)
          have HCz := Kp.mk (HC.out.step hbl)
          clear hbl
          go_region_held3 (fun w' => w'.cell? ⟨g1, 0, none⟩ = some (.int .i64 y) ∧ w'.cell? ⟨g1, 1, none⟩ = some (.int .i64 m) ∧ w'.cell? ⟨g1, 2, none⟩ = some (.int .i64 d)) (first | go_keep | exact ⟨kHC0_u5, kHC1_u5, kHC2_u5⟩ | exact ⟨kHC0_u6, kHC1_u6, kHC2_u6⟩ | exact ⟨kHC0_u7, kHC1_u7, kHC2_u7⟩)
            (first
              | (go_at_call 24; (with_reducible show Calls _ _ _ u4.drew _); refine (r5.out _).mono ?_; rintro e u5 ⟨rfl, hb⟩; have HB_u5 := Kp.mk (HBz.out.step hb); have HC_u5 := Kp.mk (HCz.out.step hb); have kHC0_u5 := HC_u5.out.c0; have kHC1_u5 := HC_u5.out.c1; have kHC2_u5 := HC_u5.out.c2; clear hb)
              | (go_at_call 19; (with_reducible show Calls _ _ _ u5 _); refine (q1.out _).mono ?_; rintro e u6 ⟨rfl, hb⟩; have HB_u6 := Kp.mk (HB_u5.out.step hb); have HC_u6 := Kp.mk (HC_u5.out.step hb); have kHC0_u6 := HC_u6.out.c0; have kHC1_u6 := HC_u6.out.c1; have kHC2_u6 := HC_u6.out.c2; clear hb)
              | (go_at_call 13; (with_reducible show Calls _ _ _ u6 _); refine (r6.out _ HB_u6.out.below).mono ?_; rintro e u7 ⟨rfl, hb⟩; have HB_u7 := Kp.mk (HB_u6.out.step hb); have HC_u7 := Kp.mk (HC_u6.out.step hb); have kHC0_u7 := HC_u7.out.c0; have kHC1_u7 := HC_u7.out.c1; have kHC2_u7 := HC_u7.out.c2; clear hb))
          have HB := HB_u7
          have HC := HC_u7
          have kHC0 := HC.out.c0
          have kHC1 := HC.out.c1
          have kHC2 := HC.out.c2
          go_wp2_with fail
          refine (r7.out _ HB.out.below).mono ?_
          rintro e u8 ⟨rfl, hbl⟩
          clear kHC0 kHC1 kHC2
          have HB := Kp.mk (HB.out.step hbl)
          have HC := Kp.mk (HC.out.step hbl)
          clear hbl
          have kHC0 := HC.out.c0
          have kHC1 := HC.out.c1
          have kHC2 := HC.out.c2
          go_upto_region 11 with fail
          clear kHC0 kHC1 kHC2
          have HD := Kp.mk (cv_new y2 m2 d2 23 HB.out.below)
          have hbl := (Below.refl u8.heap.size u8).alloc (Nat.le_refl _) (.cells #[.int .i64 y2, .int .i64 m2, .int .i64 d2] 23)
          have HB := Kp.mk (HB.out.step hbl)
          have HC := Kp.mk (HC.out.step hbl)
          clear hbl
          generalize u8.alloc (.cells #[.int .i64 y2, .int .i64 m2, .int .i64 d2] 23) = u9 at *
          generalize u8.heap.size = g2 at *
          have kHC0 := HC.out.c0
          have kHC1 := HC.out.c1
          have kHC2 := HC.out.c2
          have kHD0 := HD.out.c0
          have kHD1 := HD.out.c1
          have kHD2 := HD.out.c2
          go_wp2_with fail
          refine (r8.out _ HB.out.below).mono ?_
          rintro e u10 ⟨rfl, hbl⟩
          clear kHC0 kHC1 kHC2 kHD0 kHD1 kHD2
          have HB := Kp.mk (HB.out.step hbl)
          have HC := Kp.mk (HC.out.step hbl)
          have HD := Kp.mk (HD.out.step hbl)
          clear hbl
          have kHC0 := HC.out.c0
          have kHC1 := HC.out.c1
          have kHC2 := HC.out.c2
          have kHD0 := HD.out.c0
          have kHD1 := HD.out.c1
          have kHD2 := HD.out.c2
          go_wp2_with fail
          refine (rl.out _ HB.out.below).mono ?_
          rintro e u11 ⟨rfl, hbl⟩
          clear kHC0 kHC1 kHC2 kHD0 kHD1 kHD2
          have HB := Kp.mk (HB.out.step hbl)
          have HC := Kp.mk (HC.out.step hbl)
          have HD := Kp.mk (HD.out.step hbl)
          clear hbl
          have kHC0 := HC.out.c0
          have kHC1 := HC.out.c1
          have kHC2 := HC.out.c2
          have kHD0 := HD.out.c0
          have kHD1 := HD.out.c1
          have kHD2 := HD.out.c2
          go_wp2_with fail
          go_ret
          exact ⟨rfl, HB.out.below⟩
theorem right_ord {y n : Int} (hy : isY y = true) (h : 1 ≤ n ∧ n ≤ lenI y) : ∃ m d, Right y m d ∧ ordC y m d = n ∧ Dc y m d = Sd y + n - 1 := by
  have hs := Sd_succ y
  obtain ⟨m, d, h1, h2, _, _⟩ := right_ex (n := Sd y + n - 1) (y := y) ⟨by omega, by omega⟩ hy
  exact ⟨m, d, h1, by unfold ordC; omega, h2⟩
set_option maxRecDepth 100000 in
set_option maxHeartbeats 4000000 in
theorem lawOrdinal_any {I : World → Prop} (C : CivFns I) (y n : Int) (w : World) (hI : I w) (y0 : -9223372036854775808 ≤ y) (y1 : y ≤ 9223372036854775807) (n0 : -9223372036854775808 ≤ n) (n1 : n ≤ 9223372036854775807) :
    Calls Tryz.prog 8 #[.int .i64 y, .int .i64 n] w fun e w' => e = .returned (.bool true) ∧ Below w.heap.size w w' := by
  have HB := Kp.mk (Bl.mk (Below.refl w.heap.size w))
  have HI := Kp.mk (fun (v : World) (h : Below w.heap.size w v) => C.keep hI h)
  clear hI
  have rl := Kp.mk (fun v (hw : Below w.heap.size w v) => C.lives v (HI.out v hw))
  have q1 := Kp.mk (fun w => civil_is 0 0 0 w)
  cases hy : isY y
  · have r1 := Kp.mk (fun w' (hw : Below w.heap.size w w') => C.from_year w' (HI.out w' hw) y0 y1 n0 n1 hy)
    have r2 := Kp.mk (fun w => refIs_is w hy)
    have q2 := Kp.mk (fun w => gives_bad (e := 6) (by decide) 0 0 0 w)
    clear C hy y0 y1 n0 n1
    go_enter Tryz.func8, Tryz.ntmps8
    go_upto_region 1 with fail
    go_wp2_with fail
    refine (r1.out _ HB.out.below).mono ?_
    rintro e u1 ⟨rfl, hbl⟩
    have HB := Kp.mk (HB.out.step hbl)
    clear hbl
    go_upto_region 2 with fail
    have HC := Kp.mk (cv_new 0 0 0 23 HB.out.below)
    have hbl := (Below.refl u1.heap.size u1).alloc (Nat.le_refl _) (.cells #[.int .i64 0, .int .i64 0, .int .i64 0] 23)
    have HB := Kp.mk (HB.out.step hbl)
    clear hbl
    generalize u1.alloc (.cells #[.int .i64 0, .int .i64 0, .int .i64 0] 23) = u2 at *
    generalize u1.heap.size = g1 at *
    have kHC0 := HC.out.c0
    have kHC1 := HC.out.c1
    have kHC2 := HC.out.c2
    go_wp2_with fail
    refine (r2.out _).mono ?_
    rintro e w' ⟨rfl, rfl⟩
    go_wp2_with fail
    go_upto_region 3 with fail
    have hbl := (Below.refl u2.heap.size u2).drew
    have HBz := Kp.mk (HB.out.step hbl)
    have HCz := Kp.mk (HC.out.step hbl)
    clear hbl
    go_region_held3 (fun w' => w'.cell? ⟨g1, 0, none⟩ = some (.int .i64 0) ∧ w'.cell? ⟨g1, 1, none⟩ = some (.int .i64 0) ∧ w'.cell? ⟨g1, 2, none⟩ = some (.int .i64 0)) (first | go_keep | exact ⟨kHC0_u3, kHC1_u3, kHC2_u3⟩ | exact ⟨kHC0_u4, kHC1_u4, kHC2_u4⟩ | exact ⟨kHC0_u5, kHC1_u5, kHC2_u5⟩)
      (first
        | (go_at_call 23; (with_reducible show Calls _ _ _ u2.drew _); refine (q1.out _).mono ?_; rintro e u3 ⟨rfl, hb⟩; have HB_u3 := Kp.mk (HBz.out.step hb); have HC_u3 := Kp.mk (HCz.out.step hb); have kHC0_u3 := HC_u3.out.c0; have kHC1_u3 := HC_u3.out.c1; have kHC2_u3 := HC_u3.out.c2; clear hb)
        | (go_at_call 19; (with_reducible show Calls _ _ _ u3 _); refine (q2.out _).mono ?_; rintro e u4 ⟨rfl, hb⟩; have HB_u4 := Kp.mk (HB_u3.out.step hb); have HC_u4 := Kp.mk (HC_u3.out.step hb); have kHC0_u4 := HC_u4.out.c0; have kHC1_u4 := HC_u4.out.c1; have kHC2_u4 := HC_u4.out.c2; clear hb)
        | (go_at_call 14; (with_reducible show Calls _ _ _ u4 _); refine (rl.out _ HB_u4.out.below).mono ?_; rintro e u5 ⟨rfl, hb⟩; have HB_u5 := Kp.mk (HB_u4.out.step hb); have HC_u5 := Kp.mk (HC_u4.out.step hb); have kHC0_u5 := HC_u5.out.c0; have kHC1_u5 := HC_u5.out.c1; have kHC2_u5 := HC_u5.out.c2; clear hb))
    have HB := HB_u5
    have HC := HC_u5
    have kHC0 := HC.out.c0
    have kHC1 := HC.out.c1
    have kHC2 := HC.out.c2
    go_wp2_with fail
    go_ret
    exact ⟨rfl, HB.out.below⟩
  · have r2 := Kp.mk (fun w => refIs_is w hy)
    obtain ⟨l, hl⟩ : ∃ l, lenI y = l := ⟨_, rfl⟩
    have r3 := Kp.mk (fun w => refLen_is w hl)
    by_cases hn : 1 ≤ n ∧ n ≤ l
    · obtain ⟨m, d, hR, ho, hD⟩ := right_ord (n := n) hy (by rw [hl]; exact hn)
      obtain ⟨s, hs⟩ : ∃ s, Sd y = s := ⟨_, rfl⟩
      have hsi := Sd_in hy
      have htwo := lenI_two y
      rw [hl] at htwo
      rw [hs] at hsi
      have hyr := (isY_iff y).1 hy
      have r1 := Kp.mk (fun w' (hw : Below w.heap.size w w') => C.from_in w' (HI.out w' hw) hR ho)
      have r4 := Kp.mk (fun w' (hw : Below w.heap.size w w') => C.day_in (v := s + n - 1) w' (HI.out w' hw) hR (by rw [hD, hs]))
      have r5 := Kp.mk (fun w => refStart_is (y := y) w (by omega) (by omega) hs)
      have w1 : IntKind.i64.wrap (s + n) = s + n := IntWalk.i64_in _ (by omega)
      have w2 : IntKind.i64.wrap (s + n - 1) = s + n - 1 := IntWalk.i64_in _ (by omega)
      have q3 := Kp.mk (fun w => num_ok (s + n - 1) w)
      have hn1 := hn.1
      have hn2 := hn.2
      clear C hy y0 y1 n0 n1 hl hn hR ho hD hs hsi htwo hyr
      go_enter Tryz.func8, Tryz.ntmps8
      go_upto_region 1 with fail
      go_wp2_with fail
      refine (r1.out _ HB.out.below).mono ?_
      rintro e u1 ⟨rfl, hbl⟩
      have HB := Kp.mk (HB.out.step hbl)
      clear hbl
      go_upto_region 2 with fail
      have HC := Kp.mk (cv_new y m d 23 HB.out.below)
      have hbl := (Below.refl u1.heap.size u1).alloc (Nat.le_refl _) (.cells #[.int .i64 y, .int .i64 m, .int .i64 d] 23)
      have HB := Kp.mk (HB.out.step hbl)
      clear hbl
      generalize u1.alloc (.cells #[.int .i64 y, .int .i64 m, .int .i64 d] 23) = u2 at *
      generalize u1.heap.size = g1 at *
      have kHC0 := HC.out.c0
      have kHC1 := HC.out.c1
      have kHC2 := HC.out.c2
      go_wp2_with fail
      refine (r2.out _).mono ?_
      rintro e w' ⟨rfl, rfl⟩
      go_wp2_with fail
      refine (r3.out _).mono ?_
      rintro e w' ⟨rfl, rfl⟩
      go_wp2_with fail
      refine (r4.out _ HB.out.below).mono ?_
      rintro e u3 ⟨rfl, hbl⟩
      clear kHC0 kHC1 kHC2
      have HB := Kp.mk (HB.out.step hbl)
      have HC := Kp.mk (HC.out.step hbl)
      clear hbl
      have kHC0 := HC.out.c0
      have kHC1 := HC.out.c1
      have kHC2 := HC.out.c2
      go_wp2_with fail
      refine (r5.out _).mono ?_
      rintro e w' ⟨rfl, rfl⟩
      go_wp2_with fail
      refine (q3.out _).mono ?_
      rintro e w' ⟨rfl, rfl⟩
      go_wp2_with fail
      refine (rl.out _ HB.out.below).mono ?_
      rintro e u4 ⟨rfl, hbl⟩
      clear kHC0 kHC1 kHC2
      have HB := Kp.mk (HB.out.step hbl)
      have HC := Kp.mk (HC.out.step hbl)
      clear hbl
      have kHC0 := HC.out.c0
      have kHC1 := HC.out.c1
      have kHC2 := HC.out.c2
      go_wp2_with fail
      go_ret
      exact ⟨rfl, HB.out.below⟩
    · have r1 := Kp.mk (fun w' (hw : Below w.heap.size w w') => C.from_out w' (HI.out w' hw) y0 y1 n0 n1 hy (by rw [hl]; exact hn))
      have q2 := Kp.mk (fun w => gives_bad (e := 4) (by decide) 0 0 0 w)
      by_cases h1 : n < 1
      · clear C hy y0 y1 n0 n1 hl hn
        go_enter Tryz.func8, Tryz.ntmps8
        go_upto_region 1 with fail
        go_wp2_with fail
        refine (r1.out _ HB.out.below).mono ?_
        rintro e u1 ⟨rfl, hbl⟩
        have HB := Kp.mk (HB.out.step hbl)
        clear hbl
        go_upto_region 2 with fail
        have HC := Kp.mk (cv_new 0 0 0 23 HB.out.below)
        have hbl := (Below.refl u1.heap.size u1).alloc (Nat.le_refl _) (.cells #[.int .i64 0, .int .i64 0, .int .i64 0] 23)
        have HB := Kp.mk (HB.out.step hbl)
        clear hbl
        generalize u1.alloc (.cells #[.int .i64 0, .int .i64 0, .int .i64 0] 23) = u2 at *
        generalize u1.heap.size = g1 at *
        have kHC0 := HC.out.c0
        have kHC1 := HC.out.c1
        have kHC2 := HC.out.c2
        go_wp2_with fail
        refine (r2.out _).mono ?_
        rintro e w' ⟨rfl, rfl⟩
        go_wp2_with fail
        go_upto_region 5 with fail
        have hbl := (Below.refl u2.heap.size u2).drew
        have HBz := Kp.mk (HB.out.step hbl)
        have HCz := Kp.mk (HC.out.step hbl)
        clear hbl
        go_region_held3 (fun w' => w'.cell? ⟨g1, 0, none⟩ = some (.int .i64 0) ∧ w'.cell? ⟨g1, 1, none⟩ = some (.int .i64 0) ∧ w'.cell? ⟨g1, 2, none⟩ = some (.int .i64 0)) (first | go_keep | exact ⟨kHC0_u3, kHC1_u3, kHC2_u3⟩ | exact ⟨kHC0_u4, kHC1_u4, kHC2_u4⟩ | exact ⟨kHC0_u5, kHC1_u5, kHC2_u5⟩)
          (first
            | (go_at_call 23; (with_reducible show Calls _ _ _ u2.drew _); refine (q1.out _).mono ?_; rintro e u3 ⟨rfl, hb⟩; have HB_u3 := Kp.mk (HBz.out.step hb); have HC_u3 := Kp.mk (HCz.out.step hb); have kHC0_u3 := HC_u3.out.c0; have kHC1_u3 := HC_u3.out.c1; have kHC2_u3 := HC_u3.out.c2; clear hb)
            | (go_at_call 19; (with_reducible show Calls _ _ _ u3 _); refine (q2.out _).mono ?_; rintro e u4 ⟨rfl, hb⟩; have HB_u4 := Kp.mk (HB_u3.out.step hb); have HC_u4 := Kp.mk (HC_u3.out.step hb); have kHC0_u4 := HC_u4.out.c0; have kHC1_u4 := HC_u4.out.c1; have kHC2_u4 := HC_u4.out.c2; clear hb)
            | (go_at_call 14; (with_reducible show Calls _ _ _ u4 _); refine (rl.out _ HB_u4.out.below).mono ?_; rintro e u5 ⟨rfl, hb⟩; have HB_u5 := Kp.mk (HB_u4.out.step hb); have HC_u5 := Kp.mk (HC_u4.out.step hb); have kHC0_u5 := HC_u5.out.c0; have kHC1_u5 := HC_u5.out.c1; have kHC2_u5 := HC_u5.out.c2; clear hb))
        have HB := HB_u5
        have HC := HC_u5
        have kHC0 := HC.out.c0
        have kHC1 := HC.out.c1
        have kHC2 := HC.out.c2
        go_wp2_with fail
        go_ret
        exact ⟨rfl, HB.out.below⟩
      · have h2 : l < n := by omega
        clear C hy y0 y1 n0 n1 hl hn
        go_enter Tryz.func8, Tryz.ntmps8
        go_upto_region 1 with fail
        go_wp2_with fail
        refine (r1.out _ HB.out.below).mono ?_
        rintro e u1 ⟨rfl, hbl⟩
        have HB := Kp.mk (HB.out.step hbl)
        clear hbl
        go_upto_region 2 with fail
        have HC := Kp.mk (cv_new 0 0 0 23 HB.out.below)
        have hbl := (Below.refl u1.heap.size u1).alloc (Nat.le_refl _) (.cells #[.int .i64 0, .int .i64 0, .int .i64 0] 23)
        have HB := Kp.mk (HB.out.step hbl)
        clear hbl
        generalize u1.alloc (.cells #[.int .i64 0, .int .i64 0, .int .i64 0] 23) = u2 at *
        generalize u1.heap.size = g1 at *
        have kHC0 := HC.out.c0
        have kHC1 := HC.out.c1
        have kHC2 := HC.out.c2
        go_wp2_with fail
        refine (r2.out _).mono ?_
        rintro e w' ⟨rfl, rfl⟩
        go_wp2_with fail
        refine (r3.out _).mono ?_
        rintro e w' ⟨rfl, rfl⟩
        go_wp2_with fail

        go_upto_region 5 with fail
        have hbl := (Below.refl u2.heap.size u2).drew
        have HBz := Kp.mk (HB.out.step hbl)
        have HCz := Kp.mk (HC.out.step hbl)
        clear hbl
        go_region_held3 (fun w' => w'.cell? ⟨g1, 0, none⟩ = some (.int .i64 0) ∧ w'.cell? ⟨g1, 1, none⟩ = some (.int .i64 0) ∧ w'.cell? ⟨g1, 2, none⟩ = some (.int .i64 0)) (first | go_keep | exact ⟨kHC0_u3, kHC1_u3, kHC2_u3⟩ | exact ⟨kHC0_u4, kHC1_u4, kHC2_u4⟩ | exact ⟨kHC0_u5, kHC1_u5, kHC2_u5⟩)
          (first
            | (go_at_call 23; (with_reducible show Calls _ _ _ u2.drew _); refine (q1.out _).mono ?_; rintro e u3 ⟨rfl, hb⟩; have HB_u3 := Kp.mk (HBz.out.step hb); have HC_u3 := Kp.mk (HCz.out.step hb); have kHC0_u3 := HC_u3.out.c0; have kHC1_u3 := HC_u3.out.c1; have kHC2_u3 := HC_u3.out.c2; clear hb)
            | (go_at_call 19; (with_reducible show Calls _ _ _ u3 _); refine (q2.out _).mono ?_; rintro e u4 ⟨rfl, hb⟩; have HB_u4 := Kp.mk (HB_u3.out.step hb); have HC_u4 := Kp.mk (HC_u3.out.step hb); have kHC0_u4 := HC_u4.out.c0; have kHC1_u4 := HC_u4.out.c1; have kHC2_u4 := HC_u4.out.c2; clear hb)
            | (go_at_call 14; (with_reducible show Calls _ _ _ u4 _); refine (rl.out _ HB_u4.out.below).mono ?_; rintro e u5 ⟨rfl, hb⟩; have HB_u5 := Kp.mk (HB_u4.out.step hb); have HC_u5 := Kp.mk (HC_u4.out.step hb); have kHC0_u5 := HC_u5.out.c0; have kHC1_u5 := HC_u5.out.c1; have kHC2_u5 := HC_u5.out.c2; clear hb))
        have HB := HB_u5
        have HC := HC_u5
        have kHC0 := HC.out.c0
        have kHC1 := HC.out.c1
        have kHC2 := HC.out.c2
        go_wp2_with fail
        go_ret
        exact ⟨rfl, HB.out.below⟩
end Go.Proofs.YtoafigehcgledaaGreatDoor
