/-
  DERIVED. WALK of the law EndsNext: the second end is not the greater. Written by mken3.py.
-/
import Derived.Test.YtbnlomjlapnoaaaDoorEnCore
import Derived.Test.YtbnlomjlapnoaaaDoorHand
namespace Go.Proofs.YtbnlomjlapnoaaaDoor
open Go.RowKit
set_option maxRecDepth 100000

set_option maxHeartbeats 8000000 in
theorem lawNext_ge {I : World → Prop} (C : EndFns I) (d g e : Int) {p q s : Int} (w : World) (hI : I w) (d0 : -9223372036854775808 ≤ d) (d1 : d ≤ 9223372036854775807) (e0 : -9223372036854775808 ≤ e) (e1 : e ≤ 9223372036854775807) (hm : ¬ d = 9223372036854775807) (hd : StepE false 0 d p q s) (hc : 0 ≤ cmpE 0 d g e) :
    Calls Tryd.prog 4 #[.agg #[.int .i8 0, .int .i64 d], .agg #[.int .i8 g, .int .i64 e]] w fun x w' => x = .returned (.bool true) ∧ Below w.heap.size w w' := by
  obtain ⟨b, hb⟩ : ∃ b, d + 1 = b := ⟨_, rfl⟩
  have hu : StepE true 0 d 0 b 0 := ⟨fun x => absurd (chkE_zero.2 (.inl rfl)) x, fun _ x => absurd rfl x, fun _ x => absurd x hm, fun _ _ => ⟨rfl, by rw [← hb]; rfl, rfl⟩⟩
  have hback : StepE false 0 b 0 d 0 := ⟨fun x => absurd (chkE_zero.2 (.inl rfl)) x, fun _ x => absurd rfl x, fun _ x => by rw [if_neg (by decide)] at x; omega, fun _ _ => ⟨rfl, by rw [if_neg (by decide)]; omega, rfl⟩⟩
  have HA := Kp.mk (eb_two w 0 d g e).1
  have HC := Kp.mk (eb_two w 0 d g e).2
  have HB := Kp.mk (Bl.mk HA.out.below)
  have HI := Kp.mk (fun (v : World) (h : Below w.heap.size w v) => C.keep hI h)
  clear hI
  have rl := Kp.mk (fun v (hw : Below w.heap.size w v) => C.lives v (HI.out v hw))
  have r1 := Kp.mk (fun v (hw : Below w.heap.size w v) => C.next v (HI.out v hw) d0 d1 hu)
  have r2 := Kp.mk (fun v (hw : Below w.heap.size w v) => C.prev v (HI.out v hw) d0 d1 hd)
  have r3 := Kp.mk (fun w => refENext_is hu d0 d1 w)
  have r4 := Kp.mk (fun w => refEPrev_is hd d0 d1 w)
  obtain ⟨k, hk⟩ : ∃ k, chkE 0 d = k := ⟨_, rfl⟩
  have r5 := Kp.mk (fun v (hw : Below w.heap.size w v) => C.check v (HI.out v hw) d0 d1 hk)
  have r6 := Kp.mk (fun w => refEChk_is hk w)
  have q1 := Kp.mk (fun w => gives_law hu.zero w)
  have q2 := Kp.mk (fun w => gives_law hd.zero w)
  have r7 := Kp.mk (fun v (hw : Below w.heap.size w v) => C.prev v (HI.out v hw) (by omega) (by omega) hback)
  have r8 := Kp.mk (fun w => gives_ok 0 d w)
  have r9 := Kp.mk (fun v (hw : Below w.heap.size w v) => C.of v (HI.out v hw) d0 d1)
  obtain ⟨n, hn⟩ : ∃ n, cmpE 0 d g e = n := ⟨_, rfl⟩
  have ra := Kp.mk (fun v (hw : Below w.heap.size w v) => C.cmp v (HI.out v hw) d0 d1 e0 e1 hn)
  rw [hn] at hc
  have tc : decide (0 ≤ n) = true := decide_eq_true hc
  clear C d0 d1 e0 e1 hu hd hk hm hb hback hn hc
  go_enter Tryd.func4, Tryd.ntmps4
  go_upto_region 1 with fail
  generalize ((w.alloc (.cells #[.int .i8 0, .int .i64 d] 24)).alloc (.cells #[.int .i8 g, .int .i64 e] 24)) = w0 at *
  have kHA0 := HA.out.c0
  have kHA1 := HA.out.c1
  have kHC0 := HC.out.c0
  have kHC1 := HC.out.c1
  go_wp2_with fail
  refine (r1.out _ HB.out.below).mono ?_
  rintro e u1 ⟨rfl, hbl⟩
  clear kHA0 kHA1 kHC0 kHC1
  have HB := Kp.mk (HB.out.step hbl)
  have HA := Kp.mk (HA.out.step hbl)
  have HC := Kp.mk (HC.out.step hbl)
  clear hbl
  have kHA0 := HA.out.c0
  have kHA1 := HA.out.c1
  have kHC0 := HC.out.c0
  have kHC1 := HC.out.c1
  go_upto_region 2 with fail
  clear kHA0 kHA1 kHC0 kHC1
  have HP := Kp.mk (eb_new 0 b 24 HB.out.below)
  have hbl := (Below.refl u1.heap.size u1).alloc (Nat.le_refl _) (.cells #[.int .i8 0, .int .i64 b] 24)
  have HB := Kp.mk (HB.out.step hbl)
  have HA := Kp.mk (HA.out.step hbl)
  have HC := Kp.mk (HC.out.step hbl)
  clear hbl
  generalize u1.alloc (.cells #[.int .i8 0, .int .i64 b] 24) = u2 at *
  generalize u1.heap.size = g1 at *
  have kHA0 := HA.out.c0
  have kHA1 := HA.out.c1
  have kHC0 := HC.out.c0
  have kHC1 := HC.out.c1
  have kHP0 := HP.out.c0
  have kHP1 := HP.out.c1
  go_wp2_with fail
  refine (r2.out _ HB.out.below).mono ?_
  rintro e u3 ⟨rfl, hbl⟩
  clear kHA0 kHA1 kHC0 kHC1 kHP0 kHP1
  have HB := Kp.mk (HB.out.step hbl)
  have HA := Kp.mk (HA.out.step hbl)
  have HC := Kp.mk (HC.out.step hbl)
  have HP := Kp.mk (HP.out.step hbl)
  clear hbl
  have kHA0 := HA.out.c0
  have kHA1 := HA.out.c1
  have kHC0 := HC.out.c0
  have kHC1 := HC.out.c1
  have kHP0 := HP.out.c0
  have kHP1 := HP.out.c1
  go_upto_region 3 with fail
  clear kHA0 kHA1 kHC0 kHC1 kHP0 kHP1
  have HQ := Kp.mk (eb_new p q 24 HB.out.below)
  have hbl := (Below.refl u3.heap.size u3).alloc (Nat.le_refl _) (.cells #[.int .i8 p, .int .i64 q] 24)
  have HB := Kp.mk (HB.out.step hbl)
  have HA := Kp.mk (HA.out.step hbl)
  have HC := Kp.mk (HC.out.step hbl)
  have HP := Kp.mk (HP.out.step hbl)
  clear hbl
  generalize u3.alloc (.cells #[.int .i8 p, .int .i64 q] 24) = u4 at *
  generalize u3.heap.size = g2 at *
  have kHA0 := HA.out.c0
  have kHA1 := HA.out.c1
  have kHC0 := HC.out.c0
  have kHC1 := HC.out.c1
  have kHP0 := HP.out.c0
  have kHP1 := HP.out.c1
  have kHQ0 := HQ.out.c0
  have kHQ1 := HQ.out.c1
  go_wp2_with fail
  refine (r3.out _).mono ?_
  rintro e u5 ⟨rfl, hbl⟩
  clear kHA0 kHA1 kHC0 kHC1 kHP0 kHP1 kHQ0 kHQ1
  have HB := Kp.mk (HB.out.step hbl)
  have HA := Kp.mk (HA.out.step hbl)
  have HC := Kp.mk (HC.out.step hbl)
  have HP := Kp.mk (HP.out.step hbl)
  have HQ := Kp.mk (HQ.out.step hbl)
  clear hbl
  have kHA0 := HA.out.c0
  have kHA1 := HA.out.c1
  have kHC0 := HC.out.c0
  have kHC1 := HC.out.c1
  have kHP0 := HP.out.c0
  have kHP1 := HP.out.c1
  have kHQ0 := HQ.out.c0
  have kHQ1 := HQ.out.c1
  go_upto_region 4 with fail
  clear kHA0 kHA1 kHC0 kHC1 kHP0 kHP1 kHQ0 kHQ1
  have HR := Kp.mk (eb_new 0 b 24 HB.out.below)
  have hbl := (Below.refl u5.heap.size u5).alloc (Nat.le_refl _) (.cells #[.int .i8 0, .int .i64 b] 24)
  have HB := Kp.mk (HB.out.step hbl)
  have HA := Kp.mk (HA.out.step hbl)
  have HC := Kp.mk (HC.out.step hbl)
  have HP := Kp.mk (HP.out.step hbl)
  have HQ := Kp.mk (HQ.out.step hbl)
  clear hbl
  generalize u5.alloc (.cells #[.int .i8 0, .int .i64 b] 24) = u6 at *
  generalize u5.heap.size = g3 at *
  have kHA0 := HA.out.c0
  have kHA1 := HA.out.c1
  have kHC0 := HC.out.c0
  have kHC1 := HC.out.c1
  have kHP0 := HP.out.c0
  have kHP1 := HP.out.c1
  have kHQ0 := HQ.out.c0
  have kHQ1 := HQ.out.c1
  have kHR0 := HR.out.c0
  have kHR1 := HR.out.c1
  go_wp2_with fail
  refine (r4.out _).mono ?_
  rintro e u7 ⟨rfl, hbl⟩
  clear kHA0 kHA1 kHC0 kHC1 kHP0 kHP1 kHQ0 kHQ1 kHR0 kHR1
  have HB := Kp.mk (HB.out.step hbl)
  have HA := Kp.mk (HA.out.step hbl)
  have HC := Kp.mk (HC.out.step hbl)
  have HP := Kp.mk (HP.out.step hbl)
  have HQ := Kp.mk (HQ.out.step hbl)
  have HR := Kp.mk (HR.out.step hbl)
  clear hbl
  have kHA0 := HA.out.c0
  have kHA1 := HA.out.c1
  have kHC0 := HC.out.c0
  have kHC1 := HC.out.c1
  have kHP0 := HP.out.c0
  have kHP1 := HP.out.c1
  have kHQ0 := HQ.out.c0
  have kHQ1 := HQ.out.c1
  have kHR0 := HR.out.c0
  have kHR1 := HR.out.c1
  go_upto_region 5 with fail
  clear kHA0 kHA1 kHC0 kHC1 kHP0 kHP1 kHQ0 kHQ1 kHR0 kHR1
  have HS := Kp.mk (eb_new p q 24 HB.out.below)
  have hbl := (Below.refl u7.heap.size u7).alloc (Nat.le_refl _) (.cells #[.int .i8 p, .int .i64 q] 24)
  have HB := Kp.mk (HB.out.step hbl)
  have HA := Kp.mk (HA.out.step hbl)
  have HC := Kp.mk (HC.out.step hbl)
  have HP := Kp.mk (HP.out.step hbl)
  have HQ := Kp.mk (HQ.out.step hbl)
  have HR := Kp.mk (HR.out.step hbl)
  clear hbl
  generalize u7.alloc (.cells #[.int .i8 p, .int .i64 q] 24) = u8 at *
  generalize u7.heap.size = g4 at *
  have kHA0 := HA.out.c0
  have kHA1 := HA.out.c1
  have kHC0 := HC.out.c0
  have kHC1 := HC.out.c1
  have kHP0 := HP.out.c0
  have kHP1 := HP.out.c1
  have kHQ0 := HQ.out.c0
  have kHQ1 := HQ.out.c1
  have kHR0 := HR.out.c0
  have kHR1 := HR.out.c1
  have kHS0 := HS.out.c0
  have kHS1 := HS.out.c1
  have hbl := (Below.refl u8.heap.size u8).drew
  have HBz := Kp.mk (HB.out.step hbl)
  have HAz := Kp.mk (HA.out.step hbl)
  have HCz := Kp.mk (HC.out.step hbl)
  have HPz := Kp.mk (HP.out.step hbl)
  have HQz := Kp.mk (HQ.out.step hbl)
  have HRz := Kp.mk (HR.out.step hbl)
  have HSz := Kp.mk (HS.out.step hbl)
  have kHA0z := HAz.out.c0
  have kHA1z := HAz.out.c1
  have kHC0z := HCz.out.c0
  have kHC1z := HCz.out.c1
  have kHP0z := HPz.out.c0
  have kHP1z := HPz.out.c1
  have kHQ0z := HQz.out.c0
  have kHQ1z := HQz.out.c1
  have kHR0z := HRz.out.c0
  have kHR1z := HRz.out.c1
  have kHS0z := HSz.out.c0
  have kHS1z := HSz.out.c1
  clear hbl
  go_region_held3 (fun w' => w'.cell? ⟨w.heap.size, 0, none⟩ = some (.int .i8 0) ∧ w'.cell? ⟨w.heap.size, 1, none⟩ = some (.int .i64 d) ∧ w'.cell? ⟨w.heap.size + 1, 0, none⟩ = some (.int .i8 g) ∧ w'.cell? ⟨w.heap.size + 1, 1, none⟩ = some (.int .i64 e) ∧ w'.cell? ⟨g1, 0, none⟩ = some (.int .i8 0) ∧ w'.cell? ⟨g1, 1, none⟩ = some (.int .i64 b) ∧ w'.cell? ⟨g2, 0, none⟩ = some (.int .i8 p) ∧ w'.cell? ⟨g2, 1, none⟩ = some (.int .i64 q) ∧ w'.cell? ⟨g3, 0, none⟩ = some (.int .i8 0) ∧ w'.cell? ⟨g3, 1, none⟩ = some (.int .i64 b) ∧ w'.cell? ⟨g4, 0, none⟩ = some (.int .i8 p) ∧ w'.cell? ⟨g4, 1, none⟩ = some (.int .i64 q)) (first | (with_reducible exact ⟨kHA0, kHA1, kHC0, kHC1, kHP0, kHP1, kHQ0, kHQ1, kHR0, kHR1, kHS0, kHS1⟩) | (with_reducible exact ⟨kHA0z, kHA1z, kHC0z, kHC1z, kHP0z, kHP1z, kHQ0z, kHQ1z, kHR0z, kHR1z, kHS0z, kHS1z⟩) | (with_reducible exact ⟨kHA0_u9, kHA1_u9, kHC0_u9, kHC1_u9, kHP0_u9, kHP1_u9, kHQ0_u9, kHQ1_u9, kHR0_u9, kHR1_u9, kHS0_u9, kHS1_u9⟩) | (with_reducible exact ⟨kHA0_u10, kHA1_u10, kHC0_u10, kHC1_u10, kHP0_u10, kHP1_u10, kHQ0_u10, kHQ1_u10, kHR0_u10, kHR1_u10, kHS0_u10, kHS1_u10⟩) | (with_reducible exact ⟨kHA0_u11, kHA1_u11, kHC0_u11, kHC1_u11, kHP0_u11, kHP1_u11, kHQ0_u11, kHQ1_u11, kHR0_u11, kHR1_u11, kHS0_u11, kHS1_u11⟩) | (with_reducible exact ⟨kHA0_u12, kHA1_u12, kHC0_u12, kHC1_u12, kHP0_u12, kHP1_u12, kHQ0_u12, kHQ1_u12, kHR0_u12, kHR1_u12, kHS0_u12, kHS1_u12⟩) | go_keep)
    (first
      | (go_at_call 17; (with_reducible show Calls _ _ _ u8.drew _); (with_reducible refine (r5.out _ HBz.out.below).mono ?_); rintro e u9 ⟨rfl, hb⟩; have HB_u9 := Kp.mk (HBz.out.step hb); have HA_u9 := Kp.mk (HAz.out.step hb); have HC_u9 := Kp.mk (HCz.out.step hb); have HP_u9 := Kp.mk (HPz.out.step hb); have HQ_u9 := Kp.mk (HQz.out.step hb); have HR_u9 := Kp.mk (HRz.out.step hb); have HS_u9 := Kp.mk (HSz.out.step hb); have kHA0_u9 := HA_u9.out.c0; have kHA1_u9 := HA_u9.out.c1; have kHC0_u9 := HC_u9.out.c0; have kHC1_u9 := HC_u9.out.c1; have kHP0_u9 := HP_u9.out.c0; have kHP1_u9 := HP_u9.out.c1; have kHQ0_u9 := HQ_u9.out.c0; have kHQ1_u9 := HQ_u9.out.c1; have kHR0_u9 := HR_u9.out.c0; have kHR1_u9 := HR_u9.out.c1; have kHS0_u9 := HS_u9.out.c0; have kHS1_u9 := HS_u9.out.c1; clear hb)
      | (go_at_call 18; (with_reducible show Calls _ _ _ u9 _); (with_reducible refine (r6.out _).mono ?_); rintro e u10 ⟨rfl, hb⟩; have HB_u10 := Kp.mk (HB_u9.out.step hb); have HA_u10 := Kp.mk (HA_u9.out.step hb); have HC_u10 := Kp.mk (HC_u9.out.step hb); have HP_u10 := Kp.mk (HP_u9.out.step hb); have HQ_u10 := Kp.mk (HQ_u9.out.step hb); have HR_u10 := Kp.mk (HR_u9.out.step hb); have HS_u10 := Kp.mk (HS_u9.out.step hb); have kHA0_u10 := HA_u10.out.c0; have kHA1_u10 := HA_u10.out.c1; have kHC0_u10 := HC_u10.out.c0; have kHC1_u10 := HC_u10.out.c1; have kHP0_u10 := HP_u10.out.c0; have kHP1_u10 := HP_u10.out.c1; have kHQ0_u10 := HQ_u10.out.c0; have kHQ1_u10 := HQ_u10.out.c1; have kHR0_u10 := HR_u10.out.c0; have kHR1_u10 := HR_u10.out.c1; have kHS0_u10 := HS_u10.out.c0; have kHS1_u10 := HS_u10.out.c1; clear hb)
      | (go_at_call 19; (with_reducible show Calls _ _ _ u10 _); (with_reducible refine (q1.out _).mono ?_); rintro e u11 ⟨rfl, hb⟩; have HB_u11 := Kp.mk (HB_u10.out.step hb); have HA_u11 := Kp.mk (HA_u10.out.step hb); have HC_u11 := Kp.mk (HC_u10.out.step hb); have HP_u11 := Kp.mk (HP_u10.out.step hb); have HQ_u11 := Kp.mk (HQ_u10.out.step hb); have HR_u11 := Kp.mk (HR_u10.out.step hb); have HS_u11 := Kp.mk (HS_u10.out.step hb); have kHA0_u11 := HA_u11.out.c0; have kHA1_u11 := HA_u11.out.c1; have kHC0_u11 := HC_u11.out.c0; have kHC1_u11 := HC_u11.out.c1; have kHP0_u11 := HP_u11.out.c0; have kHP1_u11 := HP_u11.out.c1; have kHQ0_u11 := HQ_u11.out.c0; have kHQ1_u11 := HQ_u11.out.c1; have kHR0_u11 := HR_u11.out.c0; have kHR1_u11 := HR_u11.out.c1; have kHS0_u11 := HS_u11.out.c0; have kHS1_u11 := HS_u11.out.c1; clear hb)
      | (go_at_call 19; (with_reducible show Calls _ _ _ u11 _); (with_reducible refine (q2.out _).mono ?_); rintro e u12 ⟨rfl, hb⟩; have HB_u12 := Kp.mk (HB_u11.out.step hb); have HA_u12 := Kp.mk (HA_u11.out.step hb); have HC_u12 := Kp.mk (HC_u11.out.step hb); have HP_u12 := Kp.mk (HP_u11.out.step hb); have HQ_u12 := Kp.mk (HQ_u11.out.step hb); have HR_u12 := Kp.mk (HR_u11.out.step hb); have HS_u12 := Kp.mk (HS_u11.out.step hb); have kHA0_u12 := HA_u12.out.c0; have kHA1_u12 := HA_u12.out.c1; have kHC0_u12 := HC_u12.out.c0; have kHC1_u12 := HC_u12.out.c1; have kHP0_u12 := HP_u12.out.c0; have kHP1_u12 := HP_u12.out.c1; have kHQ0_u12 := HQ_u12.out.c0; have kHQ1_u12 := HQ_u12.out.c1; have kHR0_u12 := HR_u12.out.c0; have kHR1_u12 := HR_u12.out.c1; have kHS0_u12 := HS_u12.out.c0; have kHS1_u12 := HS_u12.out.c1; clear hb))
  have HB := HB_u12
  have HA := HA_u12
  have HC := HC_u12
  have HP := HP_u12
  have HQ := HQ_u12
  have HR := HR_u12
  have HS := HS_u12
  have kHA0 := HA.out.c0
  have kHA1 := HA.out.c1
  have kHC0 := HC.out.c0
  have kHC1 := HC.out.c1
  have kHP0 := HP.out.c0
  have kHP1 := HP.out.c1
  have kHQ0 := HQ.out.c0
  have kHQ1 := HQ.out.c1
  have kHR0 := HR.out.c0
  have kHR1 := HR.out.c1
  have kHS0 := HS.out.c0
  have kHS1 := HS.out.c1
  clear kHA0 kHA1 kHC0 kHC1 kHP0 kHP1 kHQ0 kHQ1 kHR0 kHR1 kHS0 kHS1
  clear HQ HR HS
  have kHA0 := HA.out.c0
  have kHA1 := HA.out.c1
  have kHC0 := HC.out.c0
  have kHC1 := HC.out.c1
  have kHP0 := HP.out.c0
  have kHP1 := HP.out.c1
  go_wp2_with fail
  refine (r7.out _ HB.out.below).mono ?_
  rintro e u13 ⟨rfl, hbl⟩
  clear kHA0 kHA1 kHC0 kHC1 kHP0 kHP1
  have HB := Kp.mk (HB.out.step hbl)
  have HA := Kp.mk (HA.out.step hbl)
  have HC := Kp.mk (HC.out.step hbl)
  have HP := Kp.mk (HP.out.step hbl)
  clear hbl
  have kHA0 := HA.out.c0
  have kHA1 := HA.out.c1
  have kHC0 := HC.out.c0
  have kHC1 := HC.out.c1
  have kHP0 := HP.out.c0
  have kHP1 := HP.out.c1
  go_upto_region 10 with fail
  clear kHA0 kHA1 kHC0 kHC1 kHP0 kHP1
  have HT := Kp.mk (eb_new 0 d 24 HB.out.below)
  have hbl := (Below.refl u13.heap.size u13).alloc (Nat.le_refl _) (.cells #[.int .i8 0, .int .i64 d] 24)
  have HB := Kp.mk (HB.out.step hbl)
  have HA := Kp.mk (HA.out.step hbl)
  have HC := Kp.mk (HC.out.step hbl)
  have HP := Kp.mk (HP.out.step hbl)
  clear hbl
  generalize u13.alloc (.cells #[.int .i8 0, .int .i64 d] 24) = u14 at *
  generalize u13.heap.size = g5 at *
  have kHA0 := HA.out.c0
  have kHA1 := HA.out.c1
  have kHC0 := HC.out.c0
  have kHC1 := HC.out.c1
  have kHP0 := HP.out.c0
  have kHP1 := HP.out.c1
  have kHT0 := HT.out.c0
  have kHT1 := HT.out.c1
  have hbl := (Below.refl u14.heap.size u14).drew
  have HBz := Kp.mk (HB.out.step hbl)
  have HAz := Kp.mk (HA.out.step hbl)
  have HCz := Kp.mk (HC.out.step hbl)
  have HPz := Kp.mk (HP.out.step hbl)
  have HTz := Kp.mk (HT.out.step hbl)
  have kHA0z := HAz.out.c0
  have kHA1z := HAz.out.c1
  have kHC0z := HCz.out.c0
  have kHC1z := HCz.out.c1
  have kHP0z := HPz.out.c0
  have kHP1z := HPz.out.c1
  have kHT0z := HTz.out.c0
  have kHT1z := HTz.out.c1
  clear hbl
  clear kHA0 kHA1 kHC0 kHC1 kHP0 kHP1 kHT0 kHT1
  refine wp_region_held_drew (S := fun w' => w'.cell? ⟨w.heap.size, 0, none⟩ = some (.int .i8 0) ∧ w'.cell? ⟨w.heap.size, 1, none⟩ = some (.int .i64 d) ∧ w'.cell? ⟨w.heap.size + 1, 0, none⟩ = some (.int .i8 g) ∧ w'.cell? ⟨w.heap.size + 1, 1, none⟩ = some (.int .i64 e) ∧ w'.cell? ⟨g1, 0, none⟩ = some (.int .i8 0) ∧ w'.cell? ⟨g1, 1, none⟩ = some (.int .i64 b) ∧ w'.cell? ⟨g5, 0, none⟩ = some (.int .i8 0) ∧ w'.cell? ⟨g5, 1, none⟩ = some (.int .i64 d)) (by kernel_rfl) ?_ (fun hHeld => ?_)
  · with_reducible exact ⟨kHA0z, kHA1z, kHC0z, kHC1z, kHP0z, kHP1z, kHT0z, kHT1z⟩
  refine takeIn (i := 0) (v := ?_) rfl (by kernel_rfl) (by kernel_rfl) (by kernel_rfl) (fun _ _ _ h => h) (by rfl) hHeld ?_ ?_
  rotate_left
  · (intro w hSw; (try dsimp only at hSw); go_simp; try with_reducible rfl)
  try simp only [Act.put, List.setIfInBounds_toArray, List.set_cons_zero, List.set_cons_succ]
  refine takeIn (i := 1) (v := ?_) rfl (by kernel_rfl) (by kernel_rfl) (by kernel_rfl) (fun _ _ _ h => h) (by rfl) hHeld ?_ ?_
  rotate_left
  · (intro w hSw; (try dsimp only at hSw); go_simp; try with_reducible rfl)
  try simp only [Act.put, List.setIfInBounds_toArray, List.set_cons_zero, List.set_cons_succ]
  refine takeIn (i := 2) (v := ?_) rfl (by kernel_rfl) (by kernel_rfl) (by kernel_rfl) (fun _ _ _ h => h) (by rfl) hHeld ?_ ?_
  rotate_left
  · (intro w hSw; (try dsimp only at hSw); go_simp; try with_reducible rfl)
  try simp only [Act.put, List.setIfInBounds_toArray, List.set_cons_zero, List.set_cons_succ]
  refine wpAnyH_ready (rs := [3]) (by kernel_rfl) (by simp) ?_
  refine AllReadyH.cons (dropAt rfl) (fun K hK => ?_) AllReadyH.nil
  go_simp
  go_at_call 19
  with_reducible refine (r8.out _).mono ?_
  rintro e u15 ⟨rfl, hb⟩
  have HB_u15 := Kp.mk (HBz.out.step hb)
  have HA_u15 := Kp.mk (HAz.out.step hb)
  have HC_u15 := Kp.mk (HCz.out.step hb)
  have HP_u15 := Kp.mk (HPz.out.step hb)
  have HT_u15 := Kp.mk (HTz.out.step hb)
  have kHA0_u15 := HA_u15.out.c0
  have kHA1_u15 := HA_u15.out.c1
  have kHC0_u15 := HC_u15.out.c0
  have kHC1_u15 := HC_u15.out.c1
  have kHP0_u15 := HP_u15.out.c0
  have kHP1_u15 := HP_u15.out.c1
  have kHT0_u15 := HT_u15.out.c0
  have kHT1_u15 := HT_u15.out.c1
  clear hHeld kHA0z kHA1z kHC0z kHC1z kHP0z kHP1z kHT0z kHT1z HBz HAz HCz HPz HTz hb
  go_wp2_with fail
  refine hK.out _ _ ?_ (fun hHeld => ?_)
  · with_reducible exact ⟨kHA0_u15, kHA1_u15, kHC0_u15, kHC1_u15, kHP0_u15, kHP1_u15, kHT0_u15, kHT1_u15⟩
  clear hK K
  try simp only [Act.put, List.setIfInBounds_toArray, List.set_cons_zero, List.set_cons_succ]
  refine takeIn (i := 4) (v := ?_) rfl (by kernel_rfl) (by kernel_rfl) (by kernel_rfl) (fun _ _ _ h => h) (by rfl) hHeld ?_ ?_
  rotate_left
  · (intro w hSw; (try dsimp only at hSw); go_simp; try with_reducible rfl)
  try simp only [Act.put, List.setIfInBounds_toArray, List.set_cons_zero, List.set_cons_succ]
  refine takeIn (i := 5) (v := ?_) rfl (by kernel_rfl) (by kernel_rfl) (by kernel_rfl) (fun _ _ _ h => h) (by rfl) hHeld ?_ ?_
  rotate_left
  · (intro w hSw; (try dsimp only at hSw); go_simp; try with_reducible rfl)
  try simp only [Act.put, List.setIfInBounds_toArray, List.set_cons_zero, List.set_cons_succ]
  refine takeIn (i := 6) (v := ?_) rfl (by kernel_rfl) (by kernel_rfl) (by kernel_rfl) (fun _ _ _ h => h) (by rfl) hHeld ?_ ?_
  rotate_left
  · (intro w hSw; (try dsimp only at hSw); go_simp; try with_reducible rfl)
  try simp only [Act.put, List.setIfInBounds_toArray, List.set_cons_zero, List.set_cons_succ]
  refine wpAnyH_ready (rs := [7]) (by kernel_rfl) (by simp) ?_
  refine AllReadyH.cons (dropAt rfl) (fun K hK => ?_) AllReadyH.nil
  go_simp
  go_at_call 8
  with_reducible refine (ra.out _ HB_u15.out.below).mono ?_
  rintro e u16 ⟨rfl, hb⟩
  have HB_u16 := Kp.mk (HB_u15.out.step hb)
  have HA_u16 := Kp.mk (HA_u15.out.step hb)
  have HC_u16 := Kp.mk (HC_u15.out.step hb)
  have HP_u16 := Kp.mk (HP_u15.out.step hb)
  have HT_u16 := Kp.mk (HT_u15.out.step hb)
  have kHA0_u16 := HA_u16.out.c0
  have kHA1_u16 := HA_u16.out.c1
  have kHC0_u16 := HC_u16.out.c0
  have kHC1_u16 := HC_u16.out.c1
  have kHP0_u16 := HP_u16.out.c0
  have kHP1_u16 := HP_u16.out.c1
  have kHT0_u16 := HT_u16.out.c0
  have kHT1_u16 := HT_u16.out.c1
  clear hHeld kHA0_u15 kHA1_u15 kHC0_u15 kHC1_u15 kHP0_u15 kHP1_u15 kHT0_u15 kHT1_u15 HB_u15 HA_u15 HC_u15 HP_u15 HT_u15 hb
  go_wp2_with fail
  refine hK.out _ _ ?_ (fun hHeld => ?_)
  · with_reducible exact ⟨kHA0_u16, kHA1_u16, kHC0_u16, kHC1_u16, kHP0_u16, kHP1_u16, kHT0_u16, kHT1_u16⟩
  clear hK K
  try simp only [Act.put, List.setIfInBounds_toArray, List.set_cons_zero, List.set_cons_succ]
  refine takeIn (i := 8) (v := ?_) rfl (by kernel_rfl) (by kernel_rfl) (by kernel_rfl) (fun _ _ _ h => h) (by rfl) hHeld ?_ ?_
  rotate_left
  · (intro w hSw; (try dsimp only at hSw); go_simp; try with_reducible rfl)
  try simp only [Act.put, List.setIfInBounds_toArray, List.set_cons_zero, List.set_cons_succ]
  refine takeIn (i := 9) (v := ?_) rfl (by kernel_rfl) (by kernel_rfl) (by kernel_rfl) (fun _ _ _ h => h) (by rfl) hHeld ?_ ?_
  rotate_left
  · (intro w hSw; (try dsimp only at hSw); go_simp; try with_reducible rfl)
  try simp only [Act.put, List.setIfInBounds_toArray, List.set_cons_zero, List.set_cons_succ]
  refine takeOut (i := 10) rfl (by kernel_rfl) (by kernel_rfl) (by kernel_rfl) (fun _ _ _ h => h) (by rfl) hHeld ?_
  try simp only [Act.put, List.setIfInBounds_toArray, List.set_cons_zero, List.set_cons_succ]
  refine takeOut (i := 11) rfl (by kernel_rfl) (by kernel_rfl) (by kernel_rfl) (fun _ _ _ h => h) (by rfl) hHeld ?_
  try simp only [Act.put, List.setIfInBounds_toArray, List.set_cons_zero, List.set_cons_succ]
  refine takeOut (i := 12) rfl (by kernel_rfl) (by kernel_rfl) (by kernel_rfl) (fun _ _ _ h => h) (by rfl) hHeld ?_
  try simp only [Act.put, List.setIfInBounds_toArray, List.set_cons_zero, List.set_cons_succ]
  refine takeOut (i := 13) rfl (by kernel_rfl) (by kernel_rfl) (by kernel_rfl) (fun _ _ _ h => h) (by rfl) hHeld ?_
  try simp only [Act.put, List.setIfInBounds_toArray, List.set_cons_zero, List.set_cons_succ]
  refine takeIn (i := 14) (v := ?_) rfl (by kernel_rfl) (by kernel_rfl) (by kernel_rfl) (fun _ _ _ h => h) (by rfl) hHeld ?_ ?_
  rotate_left
  · (intro w hSw; (try dsimp only at hSw); go_simp; try with_reducible rfl)
  try simp only [Act.put, List.setIfInBounds_toArray, List.set_cons_zero, List.set_cons_succ]
  refine takeIn (i := 15) (v := ?_) rfl (by kernel_rfl) (by kernel_rfl) (by kernel_rfl) (fun _ _ _ h => h) (by rfl) hHeld ?_ ?_
  rotate_left
  · (intro w hSw; (try dsimp only at hSw); go_simp; try with_reducible rfl)
  try simp only [Act.put, List.setIfInBounds_toArray, List.set_cons_zero, List.set_cons_succ]
  refine takeIn (i := 16) (v := ?_) rfl (by kernel_rfl) (by kernel_rfl) (by kernel_rfl) (fun _ _ _ h => h) (by rfl) hHeld ?_ ?_
  rotate_left
  · (intro w hSw; (try dsimp only at hSw); go_simp; try with_reducible rfl)
  try simp only [Act.put, List.setIfInBounds_toArray, List.set_cons_zero, List.set_cons_succ]
  refine takeIn (i := 17) (v := ?_) rfl (by kernel_rfl) (by kernel_rfl) (by kernel_rfl) (fun _ _ _ h => h) (by rfl) hHeld ?_ ?_
  rotate_left
  · (intro w hSw; (try dsimp only at hSw); go_simp; try with_reducible rfl)
  try simp only [Act.put, List.setIfInBounds_toArray, List.set_cons_zero, List.set_cons_succ]
  refine takeIn (i := 18) (v := ?_) rfl (by kernel_rfl) (by kernel_rfl) (by kernel_rfl) (fun _ _ _ h => h) (by rfl) hHeld ?_ ?_
  rotate_left
  · (intro w hSw; (try dsimp only at hSw); go_simp; try with_reducible rfl)
  try simp only [Act.put, List.setIfInBounds_toArray, List.set_cons_zero, List.set_cons_succ]
  refine takeIn (i := 20) (v := ?_) rfl (by kernel_rfl) (by kernel_rfl) (by kernel_rfl) (fun _ _ _ h => h) (by rfl) hHeld ?_ ?_
  rotate_left
  · (intro w hSw; (try dsimp only at hSw); go_simp; try with_reducible rfl)
  try simp only [Act.put, List.setIfInBounds_toArray, List.set_cons_zero, List.set_cons_succ]
  refine wpAnyH_ready (rs := [19]) (by kernel_rfl) (by simp) ?_
  refine AllReadyH.cons (dropAt rfl) (fun K hK => ?_) AllReadyH.nil
  go_simp
  go_at_call 20
  with_reducible refine (r9.out _ HB_u16.out.below).mono ?_
  rintro e u17 ⟨rfl, hb⟩
  have HB_u17 := Kp.mk (HB_u16.out.step hb)
  have HA_u17 := Kp.mk (HA_u16.out.step hb)
  have HC_u17 := Kp.mk (HC_u16.out.step hb)
  have HP_u17 := Kp.mk (HP_u16.out.step hb)
  have HT_u17 := Kp.mk (HT_u16.out.step hb)
  have kHA0_u17 := HA_u17.out.c0
  have kHA1_u17 := HA_u17.out.c1
  have kHC0_u17 := HC_u17.out.c0
  have kHC1_u17 := HC_u17.out.c1
  have kHP0_u17 := HP_u17.out.c0
  have kHP1_u17 := HP_u17.out.c1
  have kHT0_u17 := HT_u17.out.c0
  have kHT1_u17 := HT_u17.out.c1
  clear hHeld kHA0_u16 kHA1_u16 kHC0_u16 kHC1_u16 kHP0_u16 kHP1_u16 kHT0_u16 kHT1_u16 HB_u16 HA_u16 HC_u16 HP_u16 HT_u16 hb
  go_wp2_with fail
  refine hK.out _ _ ?_ (fun hHeld => ?_)
  · with_reducible exact ⟨kHA0_u17, kHA1_u17, kHC0_u17, kHC1_u17, kHP0_u17, kHP1_u17, kHT0_u17, kHT1_u17⟩
  clear hK K
  try simp only [Act.put, List.setIfInBounds_toArray, List.set_cons_zero, List.set_cons_succ]
  refine takeIn (i := 21) (v := ?_) rfl (by kernel_rfl) (by kernel_rfl) (by kernel_rfl) (fun _ _ _ h => h) (by rfl) hHeld ?_ ?_
  rotate_left
  · (intro w hSw; (try dsimp only at hSw); go_simp; try with_reducible rfl)
  try simp only [Act.put, List.setIfInBounds_toArray, List.set_cons_zero, List.set_cons_succ]
  refine takeIn (i := 22) (v := ?_) rfl (by kernel_rfl) (by kernel_rfl) (by kernel_rfl) (fun _ _ _ h => h) (by rfl) hHeld ?_ ?_
  rotate_left
  · (intro w hSw; (try dsimp only at hSw); go_simp; try with_reducible rfl)
  try simp only [Act.put, List.setIfInBounds_toArray, List.set_cons_zero, List.set_cons_succ]
  refine takeIn (i := 23) (v := ?_) rfl (by kernel_rfl) (by kernel_rfl) (by kernel_rfl) (fun _ _ _ h => h) (by rfl) hHeld ?_ ?_
  rotate_left
  · (intro w hSw; (try dsimp only at hSw); go_simp; try with_reducible rfl)
  try simp only [Act.put, List.setIfInBounds_toArray, List.set_cons_zero, List.set_cons_succ]
  refine wpAnyH_ready (rs := [24]) (by kernel_rfl) (by simp) ?_
  refine AllReadyH.cons (dropAt rfl) (fun K hK => ?_) AllReadyH.nil
  go_simp
  go_at_call 12
  with_reducible refine (rl.out _ HB_u17.out.below).mono ?_
  rintro e u18 ⟨rfl, hb⟩
  have HB_u18 := Kp.mk (HB_u17.out.step hb)
  have HA_u18 := Kp.mk (HA_u17.out.step hb)
  have HC_u18 := Kp.mk (HC_u17.out.step hb)
  have HP_u18 := Kp.mk (HP_u17.out.step hb)
  have HT_u18 := Kp.mk (HT_u17.out.step hb)
  have kHA0_u18 := HA_u18.out.c0
  have kHA1_u18 := HA_u18.out.c1
  have kHC0_u18 := HC_u18.out.c0
  have kHC1_u18 := HC_u18.out.c1
  have kHP0_u18 := HP_u18.out.c0
  have kHP1_u18 := HP_u18.out.c1
  have kHT0_u18 := HT_u18.out.c0
  have kHT1_u18 := HT_u18.out.c1
  clear hHeld kHA0_u17 kHA1_u17 kHC0_u17 kHC1_u17 kHP0_u17 kHP1_u17 kHT0_u17 kHT1_u17 HB_u17 HA_u17 HC_u17 HP_u17 HT_u17 hb
  go_wp2_with fail
  refine hK.out _ _ ?_ (fun hHeld => ?_)
  · with_reducible exact ⟨kHA0_u18, kHA1_u18, kHC0_u18, kHC1_u18, kHP0_u18, kHP1_u18, kHT0_u18, kHT1_u18⟩
  clear hK K
  try simp only [Act.put, List.setIfInBounds_toArray, List.set_cons_zero, List.set_cons_succ]
  refine takeIn (i := 25) (v := ?_) rfl (by kernel_rfl) (by kernel_rfl) (by kernel_rfl) (fun _ _ _ h => h) (by rfl) hHeld ?_ ?_
  rotate_left
  · (intro w hSw; (try dsimp only at hSw); go_simp; try with_reducible rfl)
  try simp only [Act.put, List.setIfInBounds_toArray, List.set_cons_zero, List.set_cons_succ]
  refine takeIn (i := 26) (v := ?_) rfl (by kernel_rfl) (by kernel_rfl) (by kernel_rfl) (fun _ _ _ h => h) (by rfl) hHeld ?_ ?_
  rotate_left
  · (intro w hSw; (try dsimp only at hSw); go_simp; try with_reducible rfl)
  try simp only [Act.put, List.setIfInBounds_toArray, List.set_cons_zero, List.set_cons_succ]
  refine wpAnyH_done (by kernel_rfl) ?_ _
  have HB := HB_u18
  have HA := HA_u18
  have HC := HC_u18
  have HP := HP_u18
  have HT := HT_u18
  have kHA0 := HA.out.c0
  have kHA1 := HA.out.c1
  have kHC0 := HC.out.c0
  have kHC1 := HC.out.c1
  have kHP0 := HP.out.c0
  have kHP1 := HP.out.c1
  have kHT0 := HT.out.c0
  have kHT1 := HT.out.c1
  go_wp2_with fail
  go_ret
  exact ⟨rfl, HB.out.below⟩
end Go.Proofs.YtbnlomjlapnoaaaDoor
