/-
 DERIVED. WALKS of the law RunsPairs, arms tnf, tmt, given the contracts of package runs. Written by mkrn2.py.
-/
import Derived.Test.YteddfolhpoikcaaGreatDoorPCo
import Derived.Test.YteddfolhpoikcaaGreatDoorPRf
import Derived.Test.YteddfolhpoikcaaGreatDoorPRp
import Derived.Test.YteddfolhpoikcaaGreatDoorPHand
namespace Go.Proofs.YteddfolhpoikcaaGreatDoor
open Go.RowKit
set_option maxRecDepth 100000

set_option maxHeartbeats 16000000 in
theorem lawPairs_tnf {I : World → Prop} (C : RunFns I) (a b : Rn) (x : Int) (w : World) (hI : I w) (ha : a.In) (hb : b.In) (x0 : -9223372036854775808 ≤ x) (x1 : x ≤ 9223372036854775807) (h1 : chkR a = 0) (h2 : chkR b = 0) (ht : touchN a b = true) (hm : meetN a b = false) (hh : hasN a x = false) :
 Calls Tryz.prog 3 #[.agg #[.int .i8 a.f, .int .i64 a.d, .int .i8 a.g, .int .i64 a.e], .agg #[.int .i8 b.f, .int .i64 b.d, .int .i8 b.g, .int .i64 b.e], .int .i64 x] w fun e w' => e = .returned (.bool true) ∧ Below w.heap.size w w' := by
 have HA := Kp.mk (rg_two w a b).1
 have HC := Kp.mk (rg_two w a b).2
 have HB := Kp.mk (bl_of HA.1)
 have HI := Kp.mk (fun (v : World) (h : Below w.heap.size w v) => C.keep hI h)
 clear hI
 have rl := Kp.mk (fun v (hw : Below w.heap.size w v) => C.lives v (HI.1 v hw))
 have ht2 := touchN_swap a b
 have hm2 := meetN_swap a b
 rw [ht] at ht2
 rw [hm] at hm2
 obtain ⟨q, hq⟩ : ∃ q, cmpR a b = q := ⟨_, rfl⟩
 have hq3 := cmpR_swap a b
 obtain ⟨nq, hnq⟩ : ∃ n, -q = n := ⟨_, rfl⟩
 rw [hq, hnq] at hq3
 have wq : IntKind.i64.wrap (-q) = nq := by
  rw [hnq]; refine IntWalk.i64_in _ ?_
  have g1 := cmpE_one a.f a.d b.f b.d
  have g2 := cmpE_one a.g a.e b.g b.e
  unfold cmpR at hq
  split at hq <;> omega
 obtain ⟨z, hz⟩ : ∃ z : Rn, zeroR = z := ⟨_, rfl⟩
 obtain ⟨v, hv⟩ : ∃ v, joinN a b = v := ⟨_, rfl⟩
 obtain ⟨u, hu⟩ : ∃ u, commN a b = u := ⟨_, rfl⟩
 have hv2 : joinN b a = v := by rw [joinN_swap]; exact hv
 have hu2 : commN b a = u := by rw [commN_swap]; exact hu
 have k1 := Kp.mk (fun w => refRChk_is h1 w)
 have k2 := Kp.mk (fun w => refRChk_is h2 w)
 have k3 := Kp.mk (fun u (hw : Below w.heap.size w u) => C.check u (HI.1 u hw) ha h1)
 have k4 := Kp.mk (fun u (hw : Below w.heap.size w u) => C.check u (HI.1 u hw) hb h2)
 have k5 := Kp.mk (fun u (hw : Below w.heap.size w u) => C.cmp u (HI.1 u hw) ha hb hq)
 have k6 := Kp.mk (fun w => refRCmp_is hq w)
 have k7 := Kp.mk (fun u (hw : Below w.heap.size w u) => C.cmp u (HI.1 u hw) hb ha hq3)
 have y1 := Kp.mk (fun u (hw : Below w.heap.size w u) => C.touch u (HI.1 u hw) ha hb ht)
 have y2 := Kp.mk (fun u (hw : Below w.heap.size w u) => C.touch u (HI.1 u hw) hb ha ht2)
 have q1 := Kp.mk (fun w => refJoin_is hv w)
 have q2 := Kp.mk (fun w => refComm_is hu w)
 have j1 : Kp (∀ u, Below w.heap.size w u → Calls Tryz.prog 14 #[rv a, rv b] u fun e w' => e = .returned (.tuple #[.agg #[.int .i8 v.f, .int .i64 v.d, .int .i8 v.g, .int .i64 v.e], .bool true]) ∧ Below u.heap.size u w') := Kp.mk (fun u hw => C.join u (HI.1 u hw) ha hb ht hv)
 have j2 : Kp (∀ u, Below w.heap.size w u → Calls Tryz.prog 14 #[rv b, rv a] u fun e w' => e = .returned (.tuple #[.agg #[.int .i8 v.f, .int .i64 v.d, .int .i8 v.g, .int .i64 v.e], .bool true]) ∧ Below u.heap.size u w') := Kp.mk (fun u hw => C.join u (HI.1 u hw) hb ha ht2 hv2)
 have f1 : Kp (∀ u, Calls Tryz.prog 17 #[rv v, .bool true, rv v, .bool true] u fun e w' => e = .returned (.bool true) ∧ Below u.heap.size u w') := Kp.mk (fun u => found_yes v u)
 have cm1 : Kp (∀ u, Below w.heap.size w u → Calls Tryz.prog 15 #[rv a, rv b] u fun e w' => e = .returned (.tuple #[.agg #[.int .i8 z.f, .int .i64 z.d, .int .i8 z.g, .int .i64 z.e], .bool false]) ∧ Below u.heap.size u w') := Kp.mk (fun u hw => by rw [← hz]; exact C.comm_no u (HI.1 u hw) ha hb hm)
 have cm2 : Kp (∀ u, Below w.heap.size w u → Calls Tryz.prog 15 #[rv b, rv a] u fun e w' => e = .returned (.tuple #[.agg #[.int .i8 z.f, .int .i64 z.d, .int .i8 z.g, .int .i64 z.e], .bool false]) ∧ Below u.heap.size u w') := Kp.mk (fun u hw => by rw [← hz]; exact C.comm_no u (HI.1 u hw) hb ha hm2)
 have f2 : Kp (∀ y, Calls Tryz.prog 17 #[.agg #[.int .i8 z.f, .int .i64 z.d, .int .i8 z.g, .int .i64 z.e], .bool false, .agg #[.int .i8 u.f, .int .i64 u.d, .int .i8 u.g, .int .i64 u.e], .bool false] y fun e w' => e = .returned (.bool true) ∧ Below y.heap.size y w') := Kp.mk (fun y => by rw [← hz]; exact found_no u y)
 have oa := (chkR_zero ha).1 h1
 have ob := (chkR_zero hb).1 h2
 have ht' := ht
 have hm' := hm
 unfold touchN at ht'
 unfold meetN at hm'
 rw [decide_eq_true_iff] at ht'
 rw [decide_eq_false_iff_not] at hm'
 have t1 : Kp (∀ u, Calls Tryz.prog 12 #[rv a, rv b] u fun e w' => e = .returned (.bool true) ∧ Below u.heap.size u w') := Kp.mk (fun u => refTouch_is oa ob (by rw [decide_eq_true_iff]; omega) u)
 have m1 : Kp (∀ u, Calls Tryz.prog 13 #[rv a, rv b] u fun e w' => e = .returned (.bool false) ∧ Below u.heap.size u w') := Kp.mk (fun u => refOver_is oa ob (by rw [decide_eq_false_iff_not]; omega) u)
 obtain ⟨i, hi⟩ : ∃ i, inN a b = i := ⟨_, rfl⟩
 have hi' := hi
 unfold inN at hi'
 have in1 : Kp (∀ u, Below w.heap.size w u → Calls Tryz.prog 20 #[rv a, rv b] u fun e w' => e = .returned (.bool i) ∧ Below u.heap.size u w') := Kp.mk (fun u hw => C.within u (HI.1 u hw) ha hb hi)
 have in2 : Kp (∀ u, Calls Tryz.prog 21 #[rv a, rv b] u fun e w' => e = .returned (.bool i) ∧ Below u.heap.size u w') := Kp.mk (fun u => refIn_is oa ob (by rw [← hi', decide_eq_decide]; exact ⟨fun y => ⟨h1, h2, y⟩, fun y => y.2.2⟩) u)
 have d1 : Kp (∀ u, Below w.heap.size w u → Calls Tryz.prog 22 #[rv a, .int .i64 x] u fun e w' => e = .returned (.bool false) ∧ Below u.heap.size u w') := Kp.mk (fun u hw => C.has u (HI.1 u hw) ha x0 x1 hh)
 have d2 : Kp (∀ u, Calls Tryz.prog 23 #[rv a, .int .i64 x] u fun e w' => e = .returned (.bool false) ∧ Below u.heap.size u w') := Kp.mk (fun u => refRHas_is oa x0 x1 (by rw [← hasN_ok oa]; exact hh) u)
 obtain ⟨k, hk⟩ : ∃ k, hasN b x = k := ⟨_, rfl⟩
 have d3 : Kp (∀ u, Below w.heap.size w u → Calls Tryz.prog 22 #[rv b, .int .i64 x] u fun e w' => e = .returned (.bool k) ∧ Below u.heap.size u w') := Kp.mk (fun u hw => C.has u (HI.1 u hw) hb x0 x1 hk)
 have d4 : Kp (∀ u, Below w.heap.size w u → Calls Tryz.prog 22 #[rv v, .int .i64 x] u fun e w' => e = .returned (.bool k) ∧ Below u.heap.size u w') := Kp.mk (fun u hw => C.has u (HI.1 u hw) (by rw [← hv]; exact joinN_in ha hb) x0 x1 (by rw [← hv, has_join ha hb ht, hh, hk]; rfl))
 clear C ha hb x0 x1 h1 h2 ht hm ht2 hm2 hq hq3 hnq hz hv hu hv2 hu2 hi oa ob ht' hm' hi' hk hh
 go_enter Tryz.func3, Tryz.ntmps3
 go_upto_region 1 with fail
 generalize ((w.alloc (.cells #[.int .i8 a.f, .int .i64 a.d, .int .i8 a.g, .int .i64 a.e] 26)).alloc (.cells #[.int .i8 b.f, .int .i64 b.d, .int .i8 b.g, .int .i64 b.e] 26)) = w0 at *
 obtain ⟨kHA0, kHA1, kHA2, kHA3⟩ := HA.1.cs
 obtain ⟨kHC0, kHC1, kHC2, kHC3⟩ := HC.1.cs
 have hbl := (Below.refl w0.heap.size w0).drew
 have HBz := Kp.mk (HB.1.step hbl)
 have HAz := Kp.mk (HA.1.step hbl)
 have HCz := Kp.mk (HC.1.step hbl)
 have kHA0z := HAz.1.c0
 have kHA1z := HAz.1.c1
 have kHA2z := HAz.1.c2
 have kHA3z := HAz.1.c3
 have kHC0z := HCz.1.c0
 have kHC1z := HCz.1.c1
 have kHC2z := HCz.1.c2
 have kHC3z := HCz.1.c3
 clear hbl
 go_region_held3 (fun w' => w'.cell? ⟨w.heap.size, 0, none⟩ = some (.int .i8 a.f) ∧ w'.cell? ⟨w.heap.size, 1, none⟩ = some (.int .i64 a.d) ∧ w'.cell? ⟨w.heap.size, 2, none⟩ = some (.int .i8 a.g) ∧ w'.cell? ⟨w.heap.size, 3, none⟩ = some (.int .i64 a.e) ∧ w'.cell? ⟨w.heap.size + 1, 0, none⟩ = some (.int .i8 b.f) ∧ w'.cell? ⟨w.heap.size + 1, 1, none⟩ = some (.int .i64 b.d) ∧ w'.cell? ⟨w.heap.size + 1, 2, none⟩ = some (.int .i8 b.g) ∧ w'.cell? ⟨w.heap.size + 1, 3, none⟩ = some (.int .i64 b.e)) (first | (with_reducible exact ⟨kHA0, kHA1, kHA2, kHA3, kHC0, kHC1, kHC2, kHC3⟩) | (with_reducible exact ⟨kHA0z, kHA1z, kHA2z, kHA3z, kHC0z, kHC1z, kHC2z, kHC3z⟩) | (with_reducible exact ⟨HA_u1.1.c0, HA_u1.1.c1, HA_u1.1.c2, HA_u1.1.c3, HC_u1.1.c0, HC_u1.1.c1, HC_u1.1.c2, HC_u1.1.c3⟩) | (with_reducible exact ⟨HA_u2.1.c0, HA_u2.1.c1, HA_u2.1.c2, HA_u2.1.c3, HC_u2.1.c0, HC_u2.1.c1, HC_u2.1.c2, HC_u2.1.c3⟩) | go_keep)
  (first
   | (go_at_call 8; (with_reducible show Calls _ _ _ w0.drew _); (with_reducible refine (k1.1 _).mono ?_); rintro e u1 ⟨rfl, hb⟩; have HB_u1 := Kp.mk (HBz.1.step hb); have HA_u1 := Kp.mk (HAz.1.step hb); have HC_u1 := Kp.mk (HCz.1.step hb); clear hb)
   | (go_at_call 8; (with_reducible show Calls _ _ _ u1 _); (with_reducible refine (k2.1 _).mono ?_); rintro e u2 ⟨rfl, hb⟩; have HB_u2 := Kp.mk (HB_u1.1.step hb); have HA_u2 := Kp.mk (HA_u1.1.step hb); have HC_u2 := Kp.mk (HC_u1.1.step hb); clear hb))
 have HB := HB_u2
 have HA := HA_u2
 have HC := HC_u2
 obtain ⟨kHA0, kHA1, kHA2, kHA3⟩ := HA.1.cs
 obtain ⟨kHC0, kHC1, kHC2, kHC3⟩ := HC.1.cs
 go_upto_region 2 with fail
 have hbl := (Below.refl u2.heap.size u2).drew
 have HBz := Kp.mk (HB.1.step hbl)
 have HAz := Kp.mk (HA.1.step hbl)
 have HCz := Kp.mk (HC.1.step hbl)
 have kHA0z := HAz.1.c0
 have kHA1z := HAz.1.c1
 have kHA2z := HAz.1.c2
 have kHA3z := HAz.1.c3
 have kHC0z := HCz.1.c0
 have kHC1z := HCz.1.c1
 have kHC2z := HCz.1.c2
 have kHC3z := HCz.1.c3
 clear hbl
 go_region_held3 (fun w' => w'.cell? ⟨w.heap.size, 0, none⟩ = some (.int .i8 a.f) ∧ w'.cell? ⟨w.heap.size, 1, none⟩ = some (.int .i64 a.d) ∧ w'.cell? ⟨w.heap.size, 2, none⟩ = some (.int .i8 a.g) ∧ w'.cell? ⟨w.heap.size, 3, none⟩ = some (.int .i64 a.e) ∧ w'.cell? ⟨w.heap.size + 1, 0, none⟩ = some (.int .i8 b.f) ∧ w'.cell? ⟨w.heap.size + 1, 1, none⟩ = some (.int .i64 b.d) ∧ w'.cell? ⟨w.heap.size + 1, 2, none⟩ = some (.int .i8 b.g) ∧ w'.cell? ⟨w.heap.size + 1, 3, none⟩ = some (.int .i64 b.e)) (first | (with_reducible exact ⟨kHA0, kHA1, kHA2, kHA3, kHC0, kHC1, kHC2, kHC3⟩) | (with_reducible exact ⟨kHA0z, kHA1z, kHA2z, kHA3z, kHC0z, kHC1z, kHC2z, kHC3z⟩) | (with_reducible exact ⟨HA_u3.1.c0, HA_u3.1.c1, HA_u3.1.c2, HA_u3.1.c3, HC_u3.1.c0, HC_u3.1.c1, HC_u3.1.c2, HC_u3.1.c3⟩) | (with_reducible exact ⟨HA_u4.1.c0, HA_u4.1.c1, HA_u4.1.c2, HA_u4.1.c3, HC_u4.1.c0, HC_u4.1.c1, HC_u4.1.c2, HC_u4.1.c3⟩) | (with_reducible exact ⟨HA_u5.1.c0, HA_u5.1.c1, HA_u5.1.c2, HA_u5.1.c3, HC_u5.1.c0, HC_u5.1.c1, HC_u5.1.c2, HC_u5.1.c3⟩) | (with_reducible exact ⟨HA_u6.1.c0, HA_u6.1.c1, HA_u6.1.c2, HA_u6.1.c3, HC_u6.1.c0, HC_u6.1.c1, HC_u6.1.c2, HC_u6.1.c3⟩) | (with_reducible exact ⟨HA_u7.1.c0, HA_u7.1.c1, HA_u7.1.c2, HA_u7.1.c3, HC_u7.1.c0, HC_u7.1.c1, HC_u7.1.c2, HC_u7.1.c3⟩) | (with_reducible exact ⟨HA_u8.1.c0, HA_u8.1.c1, HA_u8.1.c2, HA_u8.1.c3, HC_u8.1.c0, HC_u8.1.c1, HC_u8.1.c2, HC_u8.1.c3⟩) | go_keep)
  (first
   | (go_at_call 9; (with_reducible show Calls _ _ _ u2.drew _); (with_reducible refine (k3.1 _ HBz.1.below).mono ?_); rintro e u3 ⟨rfl, hb⟩; have HB_u3 := Kp.mk (HBz.1.step hb); have HA_u3 := Kp.mk (HAz.1.step hb); have HC_u3 := Kp.mk (HCz.1.step hb); clear hb)
   | (go_at_call 9; (with_reducible show Calls _ _ _ u3 _); (with_reducible refine (k4.1 _ HB_u3.1.below).mono ?_); rintro e u4 ⟨rfl, hb⟩; have HB_u4 := Kp.mk (HB_u3.1.step hb); have HA_u4 := Kp.mk (HA_u3.1.step hb); have HC_u4 := Kp.mk (HC_u3.1.step hb); clear hb)
   | (go_at_call 10; (with_reducible show Calls _ _ _ u4 _); (with_reducible refine (k5.1 _ HB_u4.1.below).mono ?_); rintro e u5 ⟨rfl, hb⟩; have HB_u5 := Kp.mk (HB_u4.1.step hb); have HA_u5 := Kp.mk (HA_u4.1.step hb); have HC_u5 := Kp.mk (HC_u4.1.step hb); clear hb)
   | (go_at_call 11; (with_reducible show Calls _ _ _ u5 _); (with_reducible refine (k6.1 _).mono ?_); rintro e u6 ⟨rfl, hb⟩; have HB_u6 := Kp.mk (HB_u5.1.step hb); have HA_u6 := Kp.mk (HA_u5.1.step hb); have HC_u6 := Kp.mk (HC_u5.1.step hb); clear hb)
   | (go_at_call 10; (with_reducible show Calls _ _ _ u6 _); (with_reducible refine (k7.1 _ HB_u6.1.below).mono ?_); rintro e u7 ⟨rfl, hb⟩; have HB_u7 := Kp.mk (HB_u6.1.step hb); have HA_u7 := Kp.mk (HA_u6.1.step hb); have HC_u7 := Kp.mk (HC_u6.1.step hb); clear hb)
   | (go_at_call 10; (with_reducible show Calls _ _ _ u7 _); (with_reducible refine (k5.1 _ HB_u7.1.below).mono ?_); rintro e u8 ⟨rfl, hb⟩; have HB_u8 := Kp.mk (HB_u7.1.step hb); have HA_u8 := Kp.mk (HA_u7.1.step hb); have HC_u8 := Kp.mk (HC_u7.1.step hb); clear hb))
 have HB := HB_u8
 have HA := HA_u8
 have HC := HC_u8
 obtain ⟨kHA0, kHA1, kHA2, kHA3⟩ := HA.1.cs
 obtain ⟨kHC0, kHC1, kHC2, kHC3⟩ := HC.1.cs
 go_wp2_with fail
 refine (t1.1 _).mono ?_
 rintro e u9 ⟨rfl, hbl⟩
 clear kHA0 kHA1 kHA2 kHA3 kHC0 kHC1 kHC2 kHC3
 have HB := Kp.mk (HB.1.step hbl)
 have HA := Kp.mk (HA.1.step hbl)
 have HC := Kp.mk (HC.1.step hbl)
 clear hbl
 obtain ⟨kHA0, kHA1, kHA2, kHA3⟩ := HA.1.cs
 obtain ⟨kHC0, kHC1, kHC2, kHC3⟩ := HC.1.cs
 go_wp2_with fail
 refine (m1.1 _).mono ?_
 rintro e u10 ⟨rfl, hbl⟩
 clear kHA0 kHA1 kHA2 kHA3 kHC0 kHC1 kHC2 kHC3
 have HB := Kp.mk (HB.1.step hbl)
 have HA := Kp.mk (HA.1.step hbl)
 have HC := Kp.mk (HC.1.step hbl)
 clear hbl
 obtain ⟨kHA0, kHA1, kHA2, kHA3⟩ := HA.1.cs
 obtain ⟨kHC0, kHC1, kHC2, kHC3⟩ := HC.1.cs
 go_wp2_with fail
 refine (j1.1 _ HB.1.below).mono ?_
 rintro e u11 ⟨rfl, hbl⟩
 clear kHA0 kHA1 kHA2 kHA3 kHC0 kHC1 kHC2 kHC3
 have HB := Kp.mk (HB.1.step hbl)
 have HA := Kp.mk (HA.1.step hbl)
 have HC := Kp.mk (HC.1.step hbl)
 clear hbl
 obtain ⟨kHA0, kHA1, kHA2, kHA3⟩ := HA.1.cs
 obtain ⟨kHC0, kHC1, kHC2, kHC3⟩ := HC.1.cs
 go_upto_region 8 with fail
 clear kHA0 kHA1 kHA2 kHA3 kHC0 kHC1 kHC2 kHC3
 have HR := Kp.mk (rg_new v 26 HB.1.below)
 have hbl := (Below.refl u11.heap.size u11).alloc (Nat.le_refl _) (.cells #[.int .i8 v.f, .int .i64 v.d, .int .i8 v.g, .int .i64 v.e] 26)
 have HB := Kp.mk (HB.1.step hbl)
 have HA := Kp.mk (HA.1.step hbl)
 have HC := Kp.mk (HC.1.step hbl)
 clear hbl
 generalize u11.alloc (.cells #[.int .i8 v.f, .int .i64 v.d, .int .i8 v.g, .int .i64 v.e] 26) = u12 at *
 generalize u11.heap.size = g1 at *
 obtain ⟨kHA0, kHA1, kHA2, kHA3⟩ := HA.1.cs
 obtain ⟨kHC0, kHC1, kHC2, kHC3⟩ := HC.1.cs
 obtain ⟨kHR0, kHR1, kHR2, kHR3⟩ := HR.1.cs
 go_wp2_with fail
 refine (j2.1 _ HB.1.below).mono ?_
 rintro e u13 ⟨rfl, hbl⟩
 clear kHA0 kHA1 kHA2 kHA3 kHC0 kHC1 kHC2 kHC3 kHR0 kHR1 kHR2 kHR3
 have HB := Kp.mk (HB.1.step hbl)
 have HA := Kp.mk (HA.1.step hbl)
 have HC := Kp.mk (HC.1.step hbl)
 have HR := Kp.mk (HR.1.step hbl)
 clear hbl
 obtain ⟨kHA0, kHA1, kHA2, kHA3⟩ := HA.1.cs
 obtain ⟨kHC0, kHC1, kHC2, kHC3⟩ := HC.1.cs
 obtain ⟨kHR0, kHR1, kHR2, kHR3⟩ := HR.1.cs
 go_upto_region 9 with fail
 clear kHA0 kHA1 kHA2 kHA3 kHC0 kHC1 kHC2 kHC3 kHR0 kHR1 kHR2 kHR3
 have HS := Kp.mk (rg_new v 26 HB.1.below)
 have hbl := (Below.refl u13.heap.size u13).alloc (Nat.le_refl _) (.cells #[.int .i8 v.f, .int .i64 v.d, .int .i8 v.g, .int .i64 v.e] 26)
 have HB := Kp.mk (HB.1.step hbl)
 have HA := Kp.mk (HA.1.step hbl)
 have HC := Kp.mk (HC.1.step hbl)
 have HR := Kp.mk (HR.1.step hbl)
 clear hbl
 generalize u13.alloc (.cells #[.int .i8 v.f, .int .i64 v.d, .int .i8 v.g, .int .i64 v.e] 26) = u14 at *
 generalize u13.heap.size = g2 at *
 obtain ⟨kHA0, kHA1, kHA2, kHA3⟩ := HA.1.cs
 obtain ⟨kHC0, kHC1, kHC2, kHC3⟩ := HC.1.cs
 obtain ⟨kHR0, kHR1, kHR2, kHR3⟩ := HR.1.cs
 obtain ⟨kHS0, kHS1, kHS2, kHS3⟩ := HS.1.cs
 go_wp2_with fail
 refine (cm1.1 _ HB.1.below).mono ?_
 rintro e u15 ⟨rfl, hbl⟩
 clear kHA0 kHA1 kHA2 kHA3 kHC0 kHC1 kHC2 kHC3 kHR0 kHR1 kHR2 kHR3 kHS0 kHS1 kHS2 kHS3
 have HB := Kp.mk (HB.1.step hbl)
 have HA := Kp.mk (HA.1.step hbl)
 have HC := Kp.mk (HC.1.step hbl)
 have HR := Kp.mk (HR.1.step hbl)
 have HS := Kp.mk (HS.1.step hbl)
 clear hbl
 obtain ⟨kHA0, kHA1, kHA2, kHA3⟩ := HA.1.cs
 obtain ⟨kHC0, kHC1, kHC2, kHC3⟩ := HC.1.cs
 obtain ⟨kHR0, kHR1, kHR2, kHR3⟩ := HR.1.cs
 obtain ⟨kHS0, kHS1, kHS2, kHS3⟩ := HS.1.cs
 go_upto_region 10 with fail
 clear kHA0 kHA1 kHA2 kHA3 kHC0 kHC1 kHC2 kHC3 kHR0 kHR1 kHR2 kHR3 kHS0 kHS1 kHS2 kHS3
 have HT := Kp.mk (rg_new z 26 HB.1.below)
 have hbl := (Below.refl u15.heap.size u15).alloc (Nat.le_refl _) (.cells #[.int .i8 z.f, .int .i64 z.d, .int .i8 z.g, .int .i64 z.e] 26)
 have HB := Kp.mk (HB.1.step hbl)
 have HA := Kp.mk (HA.1.step hbl)
 have HC := Kp.mk (HC.1.step hbl)
 have HR := Kp.mk (HR.1.step hbl)
 have HS := Kp.mk (HS.1.step hbl)
 clear hbl
 generalize u15.alloc (.cells #[.int .i8 z.f, .int .i64 z.d, .int .i8 z.g, .int .i64 z.e] 26) = u16 at *
 generalize u15.heap.size = g3 at *
 obtain ⟨kHA0, kHA1, kHA2, kHA3⟩ := HA.1.cs
 obtain ⟨kHC0, kHC1, kHC2, kHC3⟩ := HC.1.cs
 obtain ⟨kHR0, kHR1, kHR2, kHR3⟩ := HR.1.cs
 obtain ⟨kHS0, kHS1, kHS2, kHS3⟩ := HS.1.cs
 obtain ⟨kHT0, kHT1, kHT2, kHT3⟩ := HT.1.cs
 go_wp2_with fail
 refine (cm2.1 _ HB.1.below).mono ?_
 rintro e u17 ⟨rfl, hbl⟩
 clear kHA0 kHA1 kHA2 kHA3 kHC0 kHC1 kHC2 kHC3 kHR0 kHR1 kHR2 kHR3 kHS0 kHS1 kHS2 kHS3 kHT0 kHT1 kHT2 kHT3
 have HB := Kp.mk (HB.1.step hbl)
 have HA := Kp.mk (HA.1.step hbl)
 have HC := Kp.mk (HC.1.step hbl)
 have HR := Kp.mk (HR.1.step hbl)
 have HS := Kp.mk (HS.1.step hbl)
 have HT := Kp.mk (HT.1.step hbl)
 clear hbl
 obtain ⟨kHA0, kHA1, kHA2, kHA3⟩ := HA.1.cs
 obtain ⟨kHC0, kHC1, kHC2, kHC3⟩ := HC.1.cs
 obtain ⟨kHR0, kHR1, kHR2, kHR3⟩ := HR.1.cs
 obtain ⟨kHS0, kHS1, kHS2, kHS3⟩ := HS.1.cs
 obtain ⟨kHT0, kHT1, kHT2, kHT3⟩ := HT.1.cs
 go_upto_region 11 with fail
 clear kHA0 kHA1 kHA2 kHA3 kHC0 kHC1 kHC2 kHC3 kHR0 kHR1 kHR2 kHR3 kHS0 kHS1 kHS2 kHS3 kHT0 kHT1 kHT2 kHT3
 have HU := Kp.mk (rg_new z 26 HB.1.below)
 have hbl := (Below.refl u17.heap.size u17).alloc (Nat.le_refl _) (.cells #[.int .i8 z.f, .int .i64 z.d, .int .i8 z.g, .int .i64 z.e] 26)
 have HB := Kp.mk (HB.1.step hbl)
 have HA := Kp.mk (HA.1.step hbl)
 have HC := Kp.mk (HC.1.step hbl)
 have HR := Kp.mk (HR.1.step hbl)
 have HS := Kp.mk (HS.1.step hbl)
 have HT := Kp.mk (HT.1.step hbl)
 clear hbl
 generalize u17.alloc (.cells #[.int .i8 z.f, .int .i64 z.d, .int .i8 z.g, .int .i64 z.e] 26) = u18 at *
 generalize u17.heap.size = g4 at *
 obtain ⟨kHA0, kHA1, kHA2, kHA3⟩ := HA.1.cs
 obtain ⟨kHC0, kHC1, kHC2, kHC3⟩ := HC.1.cs
 obtain ⟨kHR0, kHR1, kHR2, kHR3⟩ := HR.1.cs
 obtain ⟨kHS0, kHS1, kHS2, kHS3⟩ := HS.1.cs
 obtain ⟨kHT0, kHT1, kHT2, kHT3⟩ := HT.1.cs
 obtain ⟨kHU0, kHU1, kHU2, kHU3⟩ := HU.1.cs
 have hbl := (Below.refl u18.heap.size u18).drew
 have HBz := Kp.mk (HB.1.step hbl)
 have HAz := Kp.mk (HA.1.step hbl)
 have HCz := Kp.mk (HC.1.step hbl)
 have HRz := Kp.mk (HR.1.step hbl)
 have HSz := Kp.mk (HS.1.step hbl)
 have HTz := Kp.mk (HT.1.step hbl)
 have HUz := Kp.mk (HU.1.step hbl)
 have kHA0z := HAz.1.c0
 have kHA1z := HAz.1.c1
 have kHA2z := HAz.1.c2
 have kHA3z := HAz.1.c3
 have kHC0z := HCz.1.c0
 have kHC1z := HCz.1.c1
 have kHC2z := HCz.1.c2
 have kHC3z := HCz.1.c3
 have kHR0z := HRz.1.c0
 have kHR1z := HRz.1.c1
 have kHR2z := HRz.1.c2
 have kHR3z := HRz.1.c3
 have kHS0z := HSz.1.c0
 have kHS1z := HSz.1.c1
 have kHS2z := HSz.1.c2
 have kHS3z := HSz.1.c3
 have kHT0z := HTz.1.c0
 have kHT1z := HTz.1.c1
 have kHT2z := HTz.1.c2
 have kHT3z := HTz.1.c3
 have kHU0z := HUz.1.c0
 have kHU1z := HUz.1.c1
 have kHU2z := HUz.1.c2
 have kHU3z := HUz.1.c3
 clear hbl
 go_region_held3 (fun w' => w'.cell? ⟨w.heap.size, 0, none⟩ = some (.int .i8 a.f) ∧ w'.cell? ⟨w.heap.size, 1, none⟩ = some (.int .i64 a.d) ∧ w'.cell? ⟨w.heap.size, 2, none⟩ = some (.int .i8 a.g) ∧ w'.cell? ⟨w.heap.size, 3, none⟩ = some (.int .i64 a.e) ∧ w'.cell? ⟨w.heap.size + 1, 0, none⟩ = some (.int .i8 b.f) ∧ w'.cell? ⟨w.heap.size + 1, 1, none⟩ = some (.int .i64 b.d) ∧ w'.cell? ⟨w.heap.size + 1, 2, none⟩ = some (.int .i8 b.g) ∧ w'.cell? ⟨w.heap.size + 1, 3, none⟩ = some (.int .i64 b.e) ∧ w'.cell? ⟨g1, 0, none⟩ = some (.int .i8 v.f) ∧ w'.cell? ⟨g1, 1, none⟩ = some (.int .i64 v.d) ∧ w'.cell? ⟨g1, 2, none⟩ = some (.int .i8 v.g) ∧ w'.cell? ⟨g1, 3, none⟩ = some (.int .i64 v.e) ∧ w'.cell? ⟨g2, 0, none⟩ = some (.int .i8 v.f) ∧ w'.cell? ⟨g2, 1, none⟩ = some (.int .i64 v.d) ∧ w'.cell? ⟨g2, 2, none⟩ = some (.int .i8 v.g) ∧ w'.cell? ⟨g2, 3, none⟩ = some (.int .i64 v.e) ∧ w'.cell? ⟨g3, 0, none⟩ = some (.int .i8 z.f) ∧ w'.cell? ⟨g3, 1, none⟩ = some (.int .i64 z.d) ∧ w'.cell? ⟨g3, 2, none⟩ = some (.int .i8 z.g) ∧ w'.cell? ⟨g3, 3, none⟩ = some (.int .i64 z.e) ∧ w'.cell? ⟨g4, 0, none⟩ = some (.int .i8 z.f) ∧ w'.cell? ⟨g4, 1, none⟩ = some (.int .i64 z.d) ∧ w'.cell? ⟨g4, 2, none⟩ = some (.int .i8 z.g) ∧ w'.cell? ⟨g4, 3, none⟩ = some (.int .i64 z.e)) (first | (with_reducible exact ⟨kHA0, kHA1, kHA2, kHA3, kHC0, kHC1, kHC2, kHC3, kHR0, kHR1, kHR2, kHR3, kHS0, kHS1, kHS2, kHS3, kHT0, kHT1, kHT2, kHT3, kHU0, kHU1, kHU2, kHU3⟩) | (with_reducible exact ⟨kHA0z, kHA1z, kHA2z, kHA3z, kHC0z, kHC1z, kHC2z, kHC3z, kHR0z, kHR1z, kHR2z, kHR3z, kHS0z, kHS1z, kHS2z, kHS3z, kHT0z, kHT1z, kHT2z, kHT3z, kHU0z, kHU1z, kHU2z, kHU3z⟩) | (with_reducible exact ⟨HA_u19.1.c0, HA_u19.1.c1, HA_u19.1.c2, HA_u19.1.c3, HC_u19.1.c0, HC_u19.1.c1, HC_u19.1.c2, HC_u19.1.c3, HR_u19.1.c0, HR_u19.1.c1, HR_u19.1.c2, HR_u19.1.c3, HS_u19.1.c0, HS_u19.1.c1, HS_u19.1.c2, HS_u19.1.c3, HT_u19.1.c0, HT_u19.1.c1, HT_u19.1.c2, HT_u19.1.c3, HU_u19.1.c0, HU_u19.1.c1, HU_u19.1.c2, HU_u19.1.c3⟩) | (with_reducible exact ⟨HA_u20.1.c0, HA_u20.1.c1, HA_u20.1.c2, HA_u20.1.c3, HC_u20.1.c0, HC_u20.1.c1, HC_u20.1.c2, HC_u20.1.c3, HR_u20.1.c0, HR_u20.1.c1, HR_u20.1.c2, HR_u20.1.c3, HS_u20.1.c0, HS_u20.1.c1, HS_u20.1.c2, HS_u20.1.c3, HT_u20.1.c0, HT_u20.1.c1, HT_u20.1.c2, HT_u20.1.c3, HU_u20.1.c0, HU_u20.1.c1, HU_u20.1.c2, HU_u20.1.c3⟩) | (with_reducible exact ⟨HA_u21.1.c0, HA_u21.1.c1, HA_u21.1.c2, HA_u21.1.c3, HC_u21.1.c0, HC_u21.1.c1, HC_u21.1.c2, HC_u21.1.c3, HR_u21.1.c0, HR_u21.1.c1, HR_u21.1.c2, HR_u21.1.c3, HS_u21.1.c0, HS_u21.1.c1, HS_u21.1.c2, HS_u21.1.c3, HT_u21.1.c0, HT_u21.1.c1, HT_u21.1.c2, HT_u21.1.c3, HU_u21.1.c0, HU_u21.1.c1, HU_u21.1.c2, HU_u21.1.c3⟩) | (with_reducible exact ⟨HA_u22.1.c0, HA_u22.1.c1, HA_u22.1.c2, HA_u22.1.c3, HC_u22.1.c0, HC_u22.1.c1, HC_u22.1.c2, HC_u22.1.c3, HR_u22.1.c0, HR_u22.1.c1, HR_u22.1.c2, HR_u22.1.c3, HS_u22.1.c0, HS_u22.1.c1, HS_u22.1.c2, HS_u22.1.c3, HT_u22.1.c0, HT_u22.1.c1, HT_u22.1.c2, HT_u22.1.c3, HU_u22.1.c0, HU_u22.1.c1, HU_u22.1.c2, HU_u22.1.c3⟩) | (with_reducible exact ⟨HA_u23.1.c0, HA_u23.1.c1, HA_u23.1.c2, HA_u23.1.c3, HC_u23.1.c0, HC_u23.1.c1, HC_u23.1.c2, HC_u23.1.c3, HR_u23.1.c0, HR_u23.1.c1, HR_u23.1.c2, HR_u23.1.c3, HS_u23.1.c0, HS_u23.1.c1, HS_u23.1.c2, HS_u23.1.c3, HT_u23.1.c0, HT_u23.1.c1, HT_u23.1.c2, HT_u23.1.c3, HU_u23.1.c0, HU_u23.1.c1, HU_u23.1.c2, HU_u23.1.c3⟩) | (with_reducible exact ⟨HA_u24.1.c0, HA_u24.1.c1, HA_u24.1.c2, HA_u24.1.c3, HC_u24.1.c0, HC_u24.1.c1, HC_u24.1.c2, HC_u24.1.c3, HR_u24.1.c0, HR_u24.1.c1, HR_u24.1.c2, HR_u24.1.c3, HS_u24.1.c0, HS_u24.1.c1, HS_u24.1.c2, HS_u24.1.c3, HT_u24.1.c0, HT_u24.1.c1, HT_u24.1.c2, HT_u24.1.c3, HU_u24.1.c0, HU_u24.1.c1, HU_u24.1.c2, HU_u24.1.c3⟩) | go_keep)
  (first
   | (go_at_call 16; (with_reducible show Calls _ _ _ u18.drew _); (with_reducible refine (y1.1 _ HBz.1.below).mono ?_); rintro e u19 ⟨rfl, hb⟩; have HB_u19 := Kp.mk (HBz.1.step hb); have HA_u19 := Kp.mk (HAz.1.step hb); have HC_u19 := Kp.mk (HCz.1.step hb); have HR_u19 := Kp.mk (HRz.1.step hb); have HS_u19 := Kp.mk (HSz.1.step hb); have HT_u19 := Kp.mk (HTz.1.step hb); have HU_u19 := Kp.mk (HUz.1.step hb); clear hb)
   | (go_at_call 16; (with_reducible show Calls _ _ _ u19 _); (with_reducible refine (y2.1 _ HB_u19.1.below).mono ?_); rintro e u20 ⟨rfl, hb⟩; have HB_u20 := Kp.mk (HB_u19.1.step hb); have HA_u20 := Kp.mk (HA_u19.1.step hb); have HC_u20 := Kp.mk (HC_u19.1.step hb); have HR_u20 := Kp.mk (HR_u19.1.step hb); have HS_u20 := Kp.mk (HS_u19.1.step hb); have HT_u20 := Kp.mk (HT_u19.1.step hb); have HU_u20 := Kp.mk (HU_u19.1.step hb); clear hb)
   | (go_at_call 18; (with_reducible show Calls _ _ _ u20 _); (with_reducible refine (q1.1 _).mono ?_); rintro e u21 ⟨rfl, hb⟩; have HB_u21 := Kp.mk (HB_u20.1.step hb); have HA_u21 := Kp.mk (HA_u20.1.step hb); have HC_u21 := Kp.mk (HC_u20.1.step hb); have HR_u21 := Kp.mk (HR_u20.1.step hb); have HS_u21 := Kp.mk (HS_u20.1.step hb); have HT_u21 := Kp.mk (HT_u20.1.step hb); have HU_u21 := Kp.mk (HU_u20.1.step hb); clear hb)
   | (go_at_call 17; (with_reducible show Calls _ _ _ u21 _); (with_reducible refine (f1.1 _).mono ?_); rintro e u22 ⟨rfl, hb⟩; have HB_u22 := Kp.mk (HB_u21.1.step hb); have HA_u22 := Kp.mk (HA_u21.1.step hb); have HC_u22 := Kp.mk (HC_u21.1.step hb); have HR_u22 := Kp.mk (HR_u21.1.step hb); have HS_u22 := Kp.mk (HS_u21.1.step hb); have HT_u22 := Kp.mk (HT_u21.1.step hb); have HU_u22 := Kp.mk (HU_u21.1.step hb); clear hb)
   | (go_at_call 19; (with_reducible show Calls _ _ _ u22 _); (with_reducible refine (q2.1 _).mono ?_); rintro e u23 ⟨rfl, hb⟩; have HB_u23 := Kp.mk (HB_u22.1.step hb); have HA_u23 := Kp.mk (HA_u22.1.step hb); have HC_u23 := Kp.mk (HC_u22.1.step hb); have HR_u23 := Kp.mk (HR_u22.1.step hb); have HS_u23 := Kp.mk (HS_u22.1.step hb); have HT_u23 := Kp.mk (HT_u22.1.step hb); have HU_u23 := Kp.mk (HU_u22.1.step hb); clear hb)
   | (go_at_call 17; (with_reducible show Calls _ _ _ u23 _); (with_reducible refine (f2.1 _).mono ?_); rintro e u24 ⟨rfl, hb⟩; have HB_u24 := Kp.mk (HB_u23.1.step hb); have HA_u24 := Kp.mk (HA_u23.1.step hb); have HC_u24 := Kp.mk (HC_u23.1.step hb); have HR_u24 := Kp.mk (HR_u23.1.step hb); have HS_u24 := Kp.mk (HS_u23.1.step hb); have HT_u24 := Kp.mk (HT_u23.1.step hb); have HU_u24 := Kp.mk (HU_u23.1.step hb); clear hb))
 have HB := HB_u24
 have HA := HA_u24
 have HC := HC_u24
 have HR := HR_u24
 have HS := HS_u24
 have HT := HT_u24
 have HU := HU_u24
 obtain ⟨kHA0, kHA1, kHA2, kHA3⟩ := HA.1.cs
 obtain ⟨kHC0, kHC1, kHC2, kHC3⟩ := HC.1.cs
 obtain ⟨kHR0, kHR1, kHR2, kHR3⟩ := HR.1.cs
 obtain ⟨kHS0, kHS1, kHS2, kHS3⟩ := HS.1.cs
 obtain ⟨kHT0, kHT1, kHT2, kHT3⟩ := HT.1.cs
 obtain ⟨kHU0, kHU1, kHU2, kHU3⟩ := HU.1.cs
 clear kHA0 kHA1 kHA2 kHA3 kHC0 kHC1 kHC2 kHC3 kHR0 kHR1 kHR2 kHR3 kHS0 kHS1 kHS2 kHS3 kHT0 kHT1 kHT2 kHT3 kHU0 kHU1 kHU2 kHU3
 clear HS HU
 obtain ⟨kHA0, kHA1, kHA2, kHA3⟩ := HA.1.cs
 obtain ⟨kHC0, kHC1, kHC2, kHC3⟩ := HC.1.cs
 obtain ⟨kHR0, kHR1, kHR2, kHR3⟩ := HR.1.cs
 obtain ⟨kHT0, kHT1, kHT2, kHT3⟩ := HT.1.cs
 go_wp2_with fail
 refine (in1.1 _ HB.1.below).mono ?_
 rintro e u25 ⟨rfl, hbl⟩
 clear kHA0 kHA1 kHA2 kHA3 kHC0 kHC1 kHC2 kHC3 kHR0 kHR1 kHR2 kHR3 kHT0 kHT1 kHT2 kHT3
 have HB := Kp.mk (HB.1.step hbl)
 have HA := Kp.mk (HA.1.step hbl)
 have HC := Kp.mk (HC.1.step hbl)
 have HR := Kp.mk (HR.1.step hbl)
 have HT := Kp.mk (HT.1.step hbl)
 clear hbl
 obtain ⟨kHA0, kHA1, kHA2, kHA3⟩ := HA.1.cs
 obtain ⟨kHC0, kHC1, kHC2, kHC3⟩ := HC.1.cs
 obtain ⟨kHR0, kHR1, kHR2, kHR3⟩ := HR.1.cs
 obtain ⟨kHT0, kHT1, kHT2, kHT3⟩ := HT.1.cs
 go_wp2_with fail
 refine (in2.1 _).mono ?_
 rintro e u26 ⟨rfl, hbl⟩
 clear kHA0 kHA1 kHA2 kHA3 kHC0 kHC1 kHC2 kHC3 kHR0 kHR1 kHR2 kHR3 kHT0 kHT1 kHT2 kHT3
 have HB := Kp.mk (HB.1.step hbl)
 have HA := Kp.mk (HA.1.step hbl)
 have HC := Kp.mk (HC.1.step hbl)
 have HR := Kp.mk (HR.1.step hbl)
 have HT := Kp.mk (HT.1.step hbl)
 clear hbl
 obtain ⟨kHA0, kHA1, kHA2, kHA3⟩ := HA.1.cs
 obtain ⟨kHC0, kHC1, kHC2, kHC3⟩ := HC.1.cs
 obtain ⟨kHR0, kHR1, kHR2, kHR3⟩ := HR.1.cs
 obtain ⟨kHT0, kHT1, kHT2, kHT3⟩ := HT.1.cs
 go_wp2_with fail
 refine (d1.1 _ HB.1.below).mono ?_
 rintro e u27 ⟨rfl, hbl⟩
 clear kHA0 kHA1 kHA2 kHA3 kHC0 kHC1 kHC2 kHC3 kHR0 kHR1 kHR2 kHR3 kHT0 kHT1 kHT2 kHT3
 have HB := Kp.mk (HB.1.step hbl)
 have HA := Kp.mk (HA.1.step hbl)
 have HC := Kp.mk (HC.1.step hbl)
 have HR := Kp.mk (HR.1.step hbl)
 have HT := Kp.mk (HT.1.step hbl)
 clear hbl
 obtain ⟨kHA0, kHA1, kHA2, kHA3⟩ := HA.1.cs
 obtain ⟨kHC0, kHC1, kHC2, kHC3⟩ := HC.1.cs
 obtain ⟨kHR0, kHR1, kHR2, kHR3⟩ := HR.1.cs
 obtain ⟨kHT0, kHT1, kHT2, kHT3⟩ := HT.1.cs
 go_wp2_with fail
 refine (d2.1 _).mono ?_
 rintro e u28 ⟨rfl, hbl⟩
 clear kHA0 kHA1 kHA2 kHA3 kHC0 kHC1 kHC2 kHC3 kHR0 kHR1 kHR2 kHR3 kHT0 kHT1 kHT2 kHT3
 have HB := Kp.mk (HB.1.step hbl)
 have HA := Kp.mk (HA.1.step hbl)
 have HC := Kp.mk (HC.1.step hbl)
 have HR := Kp.mk (HR.1.step hbl)
 have HT := Kp.mk (HT.1.step hbl)
 clear hbl
 obtain ⟨kHA0, kHA1, kHA2, kHA3⟩ := HA.1.cs
 obtain ⟨kHC0, kHC1, kHC2, kHC3⟩ := HC.1.cs
 obtain ⟨kHR0, kHR1, kHR2, kHR3⟩ := HR.1.cs
 obtain ⟨kHT0, kHT1, kHT2, kHT3⟩ := HT.1.cs
 go_upto_region 15 with fail
 have hbl := (Below.refl u28.heap.size u28).drew
 have HBz := Kp.mk (HB.1.step hbl)
 have HAz := Kp.mk (HA.1.step hbl)
 have HCz := Kp.mk (HC.1.step hbl)
 have HRz := Kp.mk (HR.1.step hbl)
 have HTz := Kp.mk (HT.1.step hbl)
 have kHA0z := HAz.1.c0
 have kHA1z := HAz.1.c1
 have kHA2z := HAz.1.c2
 have kHA3z := HAz.1.c3
 have kHC0z := HCz.1.c0
 have kHC1z := HCz.1.c1
 have kHC2z := HCz.1.c2
 have kHC3z := HCz.1.c3
 have kHR0z := HRz.1.c0
 have kHR1z := HRz.1.c1
 have kHR2z := HRz.1.c2
 have kHR3z := HRz.1.c3
 have kHT0z := HTz.1.c0
 have kHT1z := HTz.1.c1
 have kHT2z := HTz.1.c2
 have kHT3z := HTz.1.c3
 clear hbl
 go_region_held3 (fun w' => w'.cell? ⟨w.heap.size, 0, none⟩ = some (.int .i8 a.f) ∧ w'.cell? ⟨w.heap.size, 1, none⟩ = some (.int .i64 a.d) ∧ w'.cell? ⟨w.heap.size, 2, none⟩ = some (.int .i8 a.g) ∧ w'.cell? ⟨w.heap.size, 3, none⟩ = some (.int .i64 a.e) ∧ w'.cell? ⟨w.heap.size + 1, 0, none⟩ = some (.int .i8 b.f) ∧ w'.cell? ⟨w.heap.size + 1, 1, none⟩ = some (.int .i64 b.d) ∧ w'.cell? ⟨w.heap.size + 1, 2, none⟩ = some (.int .i8 b.g) ∧ w'.cell? ⟨w.heap.size + 1, 3, none⟩ = some (.int .i64 b.e) ∧ w'.cell? ⟨g1, 0, none⟩ = some (.int .i8 v.f) ∧ w'.cell? ⟨g1, 1, none⟩ = some (.int .i64 v.d) ∧ w'.cell? ⟨g1, 2, none⟩ = some (.int .i8 v.g) ∧ w'.cell? ⟨g1, 3, none⟩ = some (.int .i64 v.e) ∧ w'.cell? ⟨g3, 0, none⟩ = some (.int .i8 z.f) ∧ w'.cell? ⟨g3, 1, none⟩ = some (.int .i64 z.d) ∧ w'.cell? ⟨g3, 2, none⟩ = some (.int .i8 z.g) ∧ w'.cell? ⟨g3, 3, none⟩ = some (.int .i64 z.e)) (first | (with_reducible exact ⟨kHA0, kHA1, kHA2, kHA3, kHC0, kHC1, kHC2, kHC3, kHR0, kHR1, kHR2, kHR3, kHT0, kHT1, kHT2, kHT3⟩) | (with_reducible exact ⟨kHA0z, kHA1z, kHA2z, kHA3z, kHC0z, kHC1z, kHC2z, kHC3z, kHR0z, kHR1z, kHR2z, kHR3z, kHT0z, kHT1z, kHT2z, kHT3z⟩) | (with_reducible exact ⟨HA_u29.1.c0, HA_u29.1.c1, HA_u29.1.c2, HA_u29.1.c3, HC_u29.1.c0, HC_u29.1.c1, HC_u29.1.c2, HC_u29.1.c3, HR_u29.1.c0, HR_u29.1.c1, HR_u29.1.c2, HR_u29.1.c3, HT_u29.1.c0, HT_u29.1.c1, HT_u29.1.c2, HT_u29.1.c3⟩) | (with_reducible exact ⟨HA_u30.1.c0, HA_u30.1.c1, HA_u30.1.c2, HA_u30.1.c3, HC_u30.1.c0, HC_u30.1.c1, HC_u30.1.c2, HC_u30.1.c3, HR_u30.1.c0, HR_u30.1.c1, HR_u30.1.c2, HR_u30.1.c3, HT_u30.1.c0, HT_u30.1.c1, HT_u30.1.c2, HT_u30.1.c3⟩) | (with_reducible exact ⟨HA_u31.1.c0, HA_u31.1.c1, HA_u31.1.c2, HA_u31.1.c3, HC_u31.1.c0, HC_u31.1.c1, HC_u31.1.c2, HC_u31.1.c3, HR_u31.1.c0, HR_u31.1.c1, HR_u31.1.c2, HR_u31.1.c3, HT_u31.1.c0, HT_u31.1.c1, HT_u31.1.c2, HT_u31.1.c3⟩) | go_keep)
  (first
   | (go_at_call 22; (with_reducible show Calls _ _ _ u28.drew _); (with_reducible refine (d4.1 _ HBz.1.below).mono ?_); rintro e u29 ⟨rfl, hb⟩; have HB_u29 := Kp.mk (HBz.1.step hb); have HA_u29 := Kp.mk (HAz.1.step hb); have HC_u29 := Kp.mk (HCz.1.step hb); have HR_u29 := Kp.mk (HRz.1.step hb); have HT_u29 := Kp.mk (HTz.1.step hb); clear hb)
   | (go_at_call 22; (with_reducible show Calls _ _ _ u29 _); (with_reducible refine (d1.1 _ HB_u29.1.below).mono ?_); rintro e u30 ⟨rfl, hb⟩; have HB_u30 := Kp.mk (HB_u29.1.step hb); have HA_u30 := Kp.mk (HA_u29.1.step hb); have HC_u30 := Kp.mk (HC_u29.1.step hb); have HR_u30 := Kp.mk (HR_u29.1.step hb); have HT_u30 := Kp.mk (HT_u29.1.step hb); clear hb)
   | (go_at_call 22; (with_reducible show Calls _ _ _ u30 _); (with_reducible refine (d3.1 _ HB_u30.1.below).mono ?_); rintro e u31 ⟨rfl, hb⟩; have HB_u31 := Kp.mk (HB_u30.1.step hb); have HA_u31 := Kp.mk (HA_u30.1.step hb); have HC_u31 := Kp.mk (HC_u30.1.step hb); have HR_u31 := Kp.mk (HR_u30.1.step hb); have HT_u31 := Kp.mk (HT_u30.1.step hb); clear hb))
 have HB := HB_u31
 have HA := HA_u31
 have HC := HC_u31
 have HR := HR_u31
 have HT := HT_u31
 obtain ⟨kHA0, kHA1, kHA2, kHA3⟩ := HA.1.cs
 obtain ⟨kHC0, kHC1, kHC2, kHC3⟩ := HC.1.cs
 obtain ⟨kHR0, kHR1, kHR2, kHR3⟩ := HR.1.cs
 obtain ⟨kHT0, kHT1, kHT2, kHT3⟩ := HT.1.cs
 clear kHA0 kHA1 kHA2 kHA3 kHC0 kHC1 kHC2 kHC3 kHR0 kHR1 kHR2 kHR3 kHT0 kHT1 kHT2 kHT3
 clear HR
 obtain ⟨kHA0, kHA1, kHA2, kHA3⟩ := HA.1.cs
 obtain ⟨kHC0, kHC1, kHC2, kHC3⟩ := HC.1.cs
 obtain ⟨kHT0, kHT1, kHT2, kHT3⟩ := HT.1.cs
 go_upto_region 17 with fail
 have hbl := (Below.refl u31.heap.size u31).drew
 have HBz := Kp.mk (HB.1.step hbl)
 have HAz := Kp.mk (HA.1.step hbl)
 have HCz := Kp.mk (HC.1.step hbl)
 have HTz := Kp.mk (HT.1.step hbl)
 have kHA0z := HAz.1.c0
 have kHA1z := HAz.1.c1
 have kHA2z := HAz.1.c2
 have kHA3z := HAz.1.c3
 have kHC0z := HCz.1.c0
 have kHC1z := HCz.1.c1
 have kHC2z := HCz.1.c2
 have kHC3z := HCz.1.c3
 have kHT0z := HTz.1.c0
 have kHT1z := HTz.1.c1
 have kHT2z := HTz.1.c2
 have kHT3z := HTz.1.c3
 clear hbl
 clear kHA0 kHA1 kHA2 kHA3 kHC0 kHC1 kHC2 kHC3 kHT0 kHT1 kHT2 kHT3
 refine wp_region_held_drew (S := fun w' => w'.cell? ⟨w.heap.size, 0, none⟩ = some (.int .i8 a.f) ∧ w'.cell? ⟨w.heap.size, 1, none⟩ = some (.int .i64 a.d) ∧ w'.cell? ⟨w.heap.size, 2, none⟩ = some (.int .i8 a.g) ∧ w'.cell? ⟨w.heap.size, 3, none⟩ = some (.int .i64 a.e) ∧ w'.cell? ⟨w.heap.size + 1, 0, none⟩ = some (.int .i8 b.f) ∧ w'.cell? ⟨w.heap.size + 1, 1, none⟩ = some (.int .i64 b.d) ∧ w'.cell? ⟨w.heap.size + 1, 2, none⟩ = some (.int .i8 b.g) ∧ w'.cell? ⟨w.heap.size + 1, 3, none⟩ = some (.int .i64 b.e) ∧ w'.cell? ⟨g3, 0, none⟩ = some (.int .i8 z.f) ∧ w'.cell? ⟨g3, 1, none⟩ = some (.int .i64 z.d) ∧ w'.cell? ⟨g3, 2, none⟩ = some (.int .i8 z.g) ∧ w'.cell? ⟨g3, 3, none⟩ = some (.int .i64 z.e)) (by kernel_rfl) ?_ (fun hHeld => ?_)
 ·with_reducible exact ⟨kHA0z, kHA1z, kHA2z, kHA3z, kHC0z, kHC1z, kHC2z, kHC3z, kHT0z, kHT1z, kHT2z, kHT3z⟩
 refine tk 0 ?_ rfl hHeld ?_ ?_
 rotate_left
 ·(intro w hSw; (try dsimp only at hSw); go_simp; try with_reducible rfl)
 try simp only [pt]
 refine tk 1 ?_ rfl hHeld ?_ ?_
 rotate_left
 ·(intro w hSw; (try dsimp only at hSw); go_simp; try with_reducible rfl)
 try simp only [pt]
 refine tk 2 ?_ rfl hHeld ?_ ?_
 rotate_left
 ·(intro w hSw; (try dsimp only at hSw); go_simp; try with_reducible rfl)
 try simp only [pt]
 refine tk 3 ?_ rfl hHeld ?_ ?_
 rotate_left
 ·(intro w hSw; (try dsimp only at hSw); go_simp; try with_reducible rfl)
 try simp only [pt]
 refine tk 4 ?_ rfl hHeld ?_ ?_
 rotate_left
 ·(intro w hSw; (try dsimp only at hSw); go_simp; try with_reducible rfl)
 try simp only [pt]
 refine takeOut (i := 5) rfl (by kernel_rfl) (by kernel_rfl) (by kernel_rfl) (fun _ _ _ h => h) (by rfl) hHeld ?_
 try simp only [pt]
 refine takeOut (i := 6) rfl (by kernel_rfl) (by kernel_rfl) (by kernel_rfl) (fun _ _ _ h => h) (by rfl) hHeld ?_
 try simp only [pt]
 refine takeOut (i := 7) rfl (by kernel_rfl) (by kernel_rfl) (by kernel_rfl) (fun _ _ _ h => h) (by rfl) hHeld ?_
 try simp only [pt]
 refine tk 8 ?_ rfl hHeld ?_ ?_
 rotate_left
 ·(intro w hSw; (try dsimp only at hSw); go_simp; try with_reducible rfl)
 try simp only [pt]
 refine tk 9 ?_ rfl hHeld ?_ ?_
 rotate_left
 ·(intro w hSw; (try dsimp only at hSw); go_simp; try with_reducible rfl)
 try simp only [pt]
 refine tk 10 ?_ rfl hHeld ?_ ?_
 rotate_left
 ·(intro w hSw; (try dsimp only at hSw); go_simp; try with_reducible rfl)
 try simp only [pt]
 refine rd [11] ?_
 refine AllReadyH.cons (dropAt rfl) (fun K hK => ?_) AllReadyH.nil
 go_simp
 go_at_call 22
 with_reducible refine (d1.1 _ HBz.1.below).mono ?_
 rintro e u32 ⟨rfl, hb⟩
 have HB_u32 := Kp.mk (HBz.1.step hb)
 have HA_u32 := Kp.mk (HAz.1.step hb)
 have HC_u32 := Kp.mk (HCz.1.step hb)
 have HT_u32 := Kp.mk (HTz.1.step hb)
 have kHA0_u32 := HA_u32.1.c0
 have kHA1_u32 := HA_u32.1.c1
 have kHA2_u32 := HA_u32.1.c2
 have kHA3_u32 := HA_u32.1.c3
 have kHC0_u32 := HC_u32.1.c0
 have kHC1_u32 := HC_u32.1.c1
 have kHC2_u32 := HC_u32.1.c2
 have kHC3_u32 := HC_u32.1.c3
 have kHT0_u32 := HT_u32.1.c0
 have kHT1_u32 := HT_u32.1.c1
 have kHT2_u32 := HT_u32.1.c2
 have kHT3_u32 := HT_u32.1.c3
 clear hHeld kHA0z kHA1z kHA2z kHA3z kHC0z kHC1z kHC2z kHC3z kHT0z kHT1z kHT2z kHT3z HBz HAz HCz HTz hb
 go_wp2_with fail
 refine hK.out _ _ ?_ (fun hHeld => ?_)
 ·with_reducible exact ⟨kHA0_u32, kHA1_u32, kHA2_u32, kHA3_u32, kHC0_u32, kHC1_u32, kHC2_u32, kHC3_u32, kHT0_u32, kHT1_u32, kHT2_u32, kHT3_u32⟩
 clear hK K
 try simp only [pt]
 refine tk 12 ?_ rfl hHeld ?_ ?_
 rotate_left
 ·(intro w hSw; (try dsimp only at hSw); go_simp; try with_reducible rfl)
 try simp only [pt]
 refine takeOut (i := 13) rfl (by kernel_rfl) (by kernel_rfl) (by kernel_rfl) (fun _ _ _ h => h) (by rfl) hHeld ?_
 try simp only [pt]
 refine takeOut (i := 14) rfl (by kernel_rfl) (by kernel_rfl) (by kernel_rfl) (fun _ _ _ h => h) (by rfl) hHeld ?_
 try simp only [pt]
 refine takeOut (i := 15) rfl (by kernel_rfl) (by kernel_rfl) (by kernel_rfl) (fun _ _ _ h => h) (by rfl) hHeld ?_
 try simp only [pt]
 refine tk 16 ?_ rfl hHeld ?_ ?_
 rotate_left
 ·(intro w hSw; (try dsimp only at hSw); go_simp; try with_reducible rfl)
 try simp only [pt]
 refine tk 17 ?_ rfl hHeld ?_ ?_
 rotate_left
 ·(intro w hSw; (try dsimp only at hSw); go_simp; try with_reducible rfl)
 try simp only [pt]
 refine tk 18 ?_ rfl hHeld ?_ ?_
 rotate_left
 ·(intro w hSw; (try dsimp only at hSw); go_simp; try with_reducible rfl)
 try simp only [pt]
 refine tk 19 ?_ rfl hHeld ?_ ?_
 rotate_left
 ·(intro w hSw; (try dsimp only at hSw); go_simp; try with_reducible rfl)
 try simp only [pt]
 refine rd [20] ?_
 refine AllReadyH.cons (dropAt rfl) (fun K hK => ?_) AllReadyH.nil
 go_simp
 go_at_call 24
 with_reducible refine (rl.1 _ HB_u32.1.below).mono ?_
 rintro e u33 ⟨rfl, hb⟩
 have HB_u33 := Kp.mk (HB_u32.1.step hb)
 have HA_u33 := Kp.mk (HA_u32.1.step hb)
 have HC_u33 := Kp.mk (HC_u32.1.step hb)
 have HT_u33 := Kp.mk (HT_u32.1.step hb)
 have kHA0_u33 := HA_u33.1.c0
 have kHA1_u33 := HA_u33.1.c1
 have kHA2_u33 := HA_u33.1.c2
 have kHA3_u33 := HA_u33.1.c3
 have kHC0_u33 := HC_u33.1.c0
 have kHC1_u33 := HC_u33.1.c1
 have kHC2_u33 := HC_u33.1.c2
 have kHC3_u33 := HC_u33.1.c3
 have kHT0_u33 := HT_u33.1.c0
 have kHT1_u33 := HT_u33.1.c1
 have kHT2_u33 := HT_u33.1.c2
 have kHT3_u33 := HT_u33.1.c3
 clear hHeld kHA0_u32 kHA1_u32 kHA2_u32 kHA3_u32 kHC0_u32 kHC1_u32 kHC2_u32 kHC3_u32 kHT0_u32 kHT1_u32 kHT2_u32 kHT3_u32 HB_u32 HA_u32 HC_u32 HT_u32 hb
 go_wp2_with fail
 refine hK.out _ _ ?_ (fun hHeld => ?_)
 ·with_reducible exact ⟨kHA0_u33, kHA1_u33, kHA2_u33, kHA3_u33, kHC0_u33, kHC1_u33, kHC2_u33, kHC3_u33, kHT0_u33, kHT1_u33, kHT2_u33, kHT3_u33⟩
 clear hK K
 try simp only [pt]
 refine tk 21 ?_ rfl hHeld ?_ ?_
 rotate_left
 ·(intro w hSw; (try dsimp only at hSw); go_simp; try with_reducible rfl)
 try simp only [pt]
 refine tk 22 ?_ rfl hHeld ?_ ?_
 rotate_left
 ·(intro w hSw; (try dsimp only at hSw); go_simp; try with_reducible rfl)
 try simp only [pt]
 refine wpAnyH_done (by kernel_rfl) ?_ _
 have HB := HB_u33
 have HA := HA_u33
 have HC := HC_u33
 have HT := HT_u33
 obtain ⟨kHA0, kHA1, kHA2, kHA3⟩ := HA.1.cs
 obtain ⟨kHC0, kHC1, kHC2, kHC3⟩ := HC.1.cs
 obtain ⟨kHT0, kHT1, kHT2, kHT3⟩ := HT.1.cs
 go_wp2_with fail
 go_ret
 exact ⟨rfl, HB.1.below⟩
set_option maxHeartbeats 16000000 in
theorem lawPairs_tmt {I : World → Prop} (C : RunFns I) (a b : Rn) (x : Int) (w : World) (hI : I w) (ha : a.In) (hb : b.In) (x0 : -9223372036854775808 ≤ x) (x1 : x ≤ 9223372036854775807) (h1 : chkR a = 0) (h2 : chkR b = 0) (ht : touchN a b = true) (hm : meetN a b = true) (hh : hasN a x = true) :
 Calls Tryz.prog 3 #[.agg #[.int .i8 a.f, .int .i64 a.d, .int .i8 a.g, .int .i64 a.e], .agg #[.int .i8 b.f, .int .i64 b.d, .int .i8 b.g, .int .i64 b.e], .int .i64 x] w fun e w' => e = .returned (.bool true) ∧ Below w.heap.size w w' := by
 have HA := Kp.mk (rg_two w a b).1
 have HC := Kp.mk (rg_two w a b).2
 have HB := Kp.mk (bl_of HA.1)
 have HI := Kp.mk (fun (v : World) (h : Below w.heap.size w v) => C.keep hI h)
 clear hI
 have rl := Kp.mk (fun v (hw : Below w.heap.size w v) => C.lives v (HI.1 v hw))
 have ht2 := touchN_swap a b
 have hm2 := meetN_swap a b
 rw [ht] at ht2
 rw [hm] at hm2
 obtain ⟨q, hq⟩ : ∃ q, cmpR a b = q := ⟨_, rfl⟩
 have hq3 := cmpR_swap a b
 obtain ⟨nq, hnq⟩ : ∃ n, -q = n := ⟨_, rfl⟩
 rw [hq, hnq] at hq3
 have wq : IntKind.i64.wrap (-q) = nq := by
  rw [hnq]; refine IntWalk.i64_in _ ?_
  have g1 := cmpE_one a.f a.d b.f b.d
  have g2 := cmpE_one a.g a.e b.g b.e
  unfold cmpR at hq
  split at hq <;> omega
 obtain ⟨z, hz⟩ : ∃ z : Rn, zeroR = z := ⟨_, rfl⟩
 obtain ⟨v, hv⟩ : ∃ v, joinN a b = v := ⟨_, rfl⟩
 obtain ⟨u, hu⟩ : ∃ u, commN a b = u := ⟨_, rfl⟩
 have hv2 : joinN b a = v := by rw [joinN_swap]; exact hv
 have hu2 : commN b a = u := by rw [commN_swap]; exact hu
 have k1 := Kp.mk (fun w => refRChk_is h1 w)
 have k2 := Kp.mk (fun w => refRChk_is h2 w)
 have k3 := Kp.mk (fun u (hw : Below w.heap.size w u) => C.check u (HI.1 u hw) ha h1)
 have k4 := Kp.mk (fun u (hw : Below w.heap.size w u) => C.check u (HI.1 u hw) hb h2)
 have k5 := Kp.mk (fun u (hw : Below w.heap.size w u) => C.cmp u (HI.1 u hw) ha hb hq)
 have k6 := Kp.mk (fun w => refRCmp_is hq w)
 have k7 := Kp.mk (fun u (hw : Below w.heap.size w u) => C.cmp u (HI.1 u hw) hb ha hq3)
 have y1 := Kp.mk (fun u (hw : Below w.heap.size w u) => C.touch u (HI.1 u hw) ha hb ht)
 have y2 := Kp.mk (fun u (hw : Below w.heap.size w u) => C.touch u (HI.1 u hw) hb ha ht2)
 have q1 := Kp.mk (fun w => refJoin_is hv w)
 have q2 := Kp.mk (fun w => refComm_is hu w)
 have j1 : Kp (∀ u, Below w.heap.size w u → Calls Tryz.prog 14 #[rv a, rv b] u fun e w' => e = .returned (.tuple #[.agg #[.int .i8 v.f, .int .i64 v.d, .int .i8 v.g, .int .i64 v.e], .bool true]) ∧ Below u.heap.size u w') := Kp.mk (fun u hw => C.join u (HI.1 u hw) ha hb ht hv)
 have j2 : Kp (∀ u, Below w.heap.size w u → Calls Tryz.prog 14 #[rv b, rv a] u fun e w' => e = .returned (.tuple #[.agg #[.int .i8 v.f, .int .i64 v.d, .int .i8 v.g, .int .i64 v.e], .bool true]) ∧ Below u.heap.size u w') := Kp.mk (fun u hw => C.join u (HI.1 u hw) hb ha ht2 hv2)
 have f1 : Kp (∀ u, Calls Tryz.prog 17 #[rv v, .bool true, rv v, .bool true] u fun e w' => e = .returned (.bool true) ∧ Below u.heap.size u w') := Kp.mk (fun u => found_yes v u)
 have cm1 : Kp (∀ y, Below w.heap.size w y → Calls Tryz.prog 15 #[.agg #[.int .i8 a.f, .int .i64 a.d, .int .i8 a.g, .int .i64 a.e], .agg #[.int .i8 b.f, .int .i64 b.d, .int .i8 b.g, .int .i64 b.e]] y fun e w' => e = .returned (.tuple #[.agg #[.int .i8 u.f, .int .i64 u.d, .int .i8 u.g, .int .i64 u.e], .bool true]) ∧ Below y.heap.size y w') := Kp.mk (fun y hw => C.comm _ (HI.1 _ hw) ha hb hm hu)
 have cm2 : Kp (∀ y, Below w.heap.size w y → Calls Tryz.prog 15 #[.agg #[.int .i8 b.f, .int .i64 b.d, .int .i8 b.g, .int .i64 b.e], .agg #[.int .i8 a.f, .int .i64 a.d, .int .i8 a.g, .int .i64 a.e]] y fun e w' => e = .returned (.tuple #[.agg #[.int .i8 u.f, .int .i64 u.d, .int .i8 u.g, .int .i64 u.e], .bool true]) ∧ Below y.heap.size y w') := Kp.mk (fun y hw => C.comm _ (HI.1 _ hw) hb ha hm2 hu2)
 have f2 : Kp (∀ y, Calls Tryz.prog 17 #[.agg #[.int .i8 u.f, .int .i64 u.d, .int .i8 u.g, .int .i64 u.e], .bool true, .agg #[.int .i8 u.f, .int .i64 u.d, .int .i8 u.g, .int .i64 u.e], .bool true] y fun e w' => e = .returned (.bool true) ∧ Below y.heap.size y w') := Kp.mk (fun y => found_yes u y)
 have oa := (chkR_zero ha).1 h1
 have ob := (chkR_zero hb).1 h2
 have ht' := ht
 have hm' := hm
 unfold touchN at ht'
 unfold meetN at hm'
 rw [decide_eq_true_iff] at ht'
 rw [decide_eq_true_iff] at hm'
 have t1 : Kp (∀ u, Calls Tryz.prog 12 #[rv a, rv b] u fun e w' => e = .returned (.bool true) ∧ Below u.heap.size u w') := Kp.mk (fun u => refTouch_is oa ob (by rw [decide_eq_true_iff]; omega) u)
 have m1 : Kp (∀ u, Calls Tryz.prog 13 #[rv a, rv b] u fun e w' => e = .returned (.bool true) ∧ Below u.heap.size u w') := Kp.mk (fun u => refOver_is oa ob (by rw [decide_eq_true_iff]; omega) u)
 obtain ⟨i, hi⟩ : ∃ i, inN a b = i := ⟨_, rfl⟩
 have hi' := hi
 unfold inN at hi'
 have in1 : Kp (∀ u, Below w.heap.size w u → Calls Tryz.prog 20 #[rv a, rv b] u fun e w' => e = .returned (.bool i) ∧ Below u.heap.size u w') := Kp.mk (fun u hw => C.within u (HI.1 u hw) ha hb hi)
 have in2 : Kp (∀ u, Calls Tryz.prog 21 #[rv a, rv b] u fun e w' => e = .returned (.bool i) ∧ Below u.heap.size u w') := Kp.mk (fun u => refIn_is oa ob (by rw [← hi', decide_eq_decide]; exact ⟨fun y => ⟨h1, h2, y⟩, fun y => y.2.2⟩) u)
 have d1 : Kp (∀ u, Below w.heap.size w u → Calls Tryz.prog 22 #[rv a, .int .i64 x] u fun e w' => e = .returned (.bool true) ∧ Below u.heap.size u w') := Kp.mk (fun u hw => C.has u (HI.1 u hw) ha x0 x1 hh)
 have d2 : Kp (∀ u, Calls Tryz.prog 23 #[rv a, .int .i64 x] u fun e w' => e = .returned (.bool true) ∧ Below u.heap.size u w') := Kp.mk (fun u => refRHas_is oa x0 x1 (by rw [← hasN_ok oa]; exact hh) u)
 obtain ⟨k, hk⟩ : ∃ k, hasN b x = k := ⟨_, rfl⟩
 have d3 : Kp (∀ u, Below w.heap.size w u → Calls Tryz.prog 22 #[rv b, .int .i64 x] u fun e w' => e = .returned (.bool k) ∧ Below u.heap.size u w') := Kp.mk (fun u hw => C.has u (HI.1 u hw) hb x0 x1 hk)
 have d4 : Kp (∀ u, Below w.heap.size w u → Calls Tryz.prog 22 #[rv v, .int .i64 x] u fun e w' => e = .returned (.bool true) ∧ Below u.heap.size u w') := Kp.mk (fun u hw => C.has u (HI.1 u hw) (by rw [← hv]; exact joinN_in ha hb) x0 x1 (by rw [← hv, has_join ha hb ht, hh, hk]; rfl))
 have d5 : Kp (∀ y, Below w.heap.size w y → Calls Tryz.prog 22 #[.agg #[.int .i8 u.f, .int .i64 u.d, .int .i8 u.g, .int .i64 u.e], .int .i64 x] y fun e w' => e = .returned (.bool k) ∧ Below y.heap.size y w') := Kp.mk (fun y hw => C.has y (HI.1 y hw) (by rw [← hu]; exact commN_in ha hb) x0 x1 (by have := has_comm ha hb h1 h2 x x0 x1; rw [hm, hu, hh, hk] at this; simpa using this))
 clear C ha hb x0 x1 h1 h2 ht hm ht2 hm2 hq hq3 hnq hz hv hu hv2 hu2 hi oa ob ht' hm' hi' hk hh
 go_enter Tryz.func3, Tryz.ntmps3
 go_upto_region 1 with fail
 generalize ((w.alloc (.cells #[.int .i8 a.f, .int .i64 a.d, .int .i8 a.g, .int .i64 a.e] 26)).alloc (.cells #[.int .i8 b.f, .int .i64 b.d, .int .i8 b.g, .int .i64 b.e] 26)) = w0 at *
 obtain ⟨kHA0, kHA1, kHA2, kHA3⟩ := HA.1.cs
 obtain ⟨kHC0, kHC1, kHC2, kHC3⟩ := HC.1.cs
 have hbl := (Below.refl w0.heap.size w0).drew
 have HBz := Kp.mk (HB.1.step hbl)
 have HAz := Kp.mk (HA.1.step hbl)
 have HCz := Kp.mk (HC.1.step hbl)
 have kHA0z := HAz.1.c0
 have kHA1z := HAz.1.c1
 have kHA2z := HAz.1.c2
 have kHA3z := HAz.1.c3
 have kHC0z := HCz.1.c0
 have kHC1z := HCz.1.c1
 have kHC2z := HCz.1.c2
 have kHC3z := HCz.1.c3
 clear hbl
 go_region_held3 (fun w' => w'.cell? ⟨w.heap.size, 0, none⟩ = some (.int .i8 a.f) ∧ w'.cell? ⟨w.heap.size, 1, none⟩ = some (.int .i64 a.d) ∧ w'.cell? ⟨w.heap.size, 2, none⟩ = some (.int .i8 a.g) ∧ w'.cell? ⟨w.heap.size, 3, none⟩ = some (.int .i64 a.e) ∧ w'.cell? ⟨w.heap.size + 1, 0, none⟩ = some (.int .i8 b.f) ∧ w'.cell? ⟨w.heap.size + 1, 1, none⟩ = some (.int .i64 b.d) ∧ w'.cell? ⟨w.heap.size + 1, 2, none⟩ = some (.int .i8 b.g) ∧ w'.cell? ⟨w.heap.size + 1, 3, none⟩ = some (.int .i64 b.e)) (first | (with_reducible exact ⟨kHA0, kHA1, kHA2, kHA3, kHC0, kHC1, kHC2, kHC3⟩) | (with_reducible exact ⟨kHA0z, kHA1z, kHA2z, kHA3z, kHC0z, kHC1z, kHC2z, kHC3z⟩) | (with_reducible exact ⟨HA_u1.1.c0, HA_u1.1.c1, HA_u1.1.c2, HA_u1.1.c3, HC_u1.1.c0, HC_u1.1.c1, HC_u1.1.c2, HC_u1.1.c3⟩) | (with_reducible exact ⟨HA_u2.1.c0, HA_u2.1.c1, HA_u2.1.c2, HA_u2.1.c3, HC_u2.1.c0, HC_u2.1.c1, HC_u2.1.c2, HC_u2.1.c3⟩) | go_keep)
  (first
   | (go_at_call 8; (with_reducible show Calls _ _ _ w0.drew _); (with_reducible refine (k1.1 _).mono ?_); rintro e u1 ⟨rfl, hb⟩; have HB_u1 := Kp.mk (HBz.1.step hb); have HA_u1 := Kp.mk (HAz.1.step hb); have HC_u1 := Kp.mk (HCz.1.step hb); clear hb)
   | (go_at_call 8; (with_reducible show Calls _ _ _ u1 _); (with_reducible refine (k2.1 _).mono ?_); rintro e u2 ⟨rfl, hb⟩; have HB_u2 := Kp.mk (HB_u1.1.step hb); have HA_u2 := Kp.mk (HA_u1.1.step hb); have HC_u2 := Kp.mk (HC_u1.1.step hb); clear hb))
 have HB := HB_u2
 have HA := HA_u2
 have HC := HC_u2
 obtain ⟨kHA0, kHA1, kHA2, kHA3⟩ := HA.1.cs
 obtain ⟨kHC0, kHC1, kHC2, kHC3⟩ := HC.1.cs
 go_upto_region 2 with fail
 have hbl := (Below.refl u2.heap.size u2).drew
 have HBz := Kp.mk (HB.1.step hbl)
 have HAz := Kp.mk (HA.1.step hbl)
 have HCz := Kp.mk (HC.1.step hbl)
 have kHA0z := HAz.1.c0
 have kHA1z := HAz.1.c1
 have kHA2z := HAz.1.c2
 have kHA3z := HAz.1.c3
 have kHC0z := HCz.1.c0
 have kHC1z := HCz.1.c1
 have kHC2z := HCz.1.c2
 have kHC3z := HCz.1.c3
 clear hbl
 go_region_held3 (fun w' => w'.cell? ⟨w.heap.size, 0, none⟩ = some (.int .i8 a.f) ∧ w'.cell? ⟨w.heap.size, 1, none⟩ = some (.int .i64 a.d) ∧ w'.cell? ⟨w.heap.size, 2, none⟩ = some (.int .i8 a.g) ∧ w'.cell? ⟨w.heap.size, 3, none⟩ = some (.int .i64 a.e) ∧ w'.cell? ⟨w.heap.size + 1, 0, none⟩ = some (.int .i8 b.f) ∧ w'.cell? ⟨w.heap.size + 1, 1, none⟩ = some (.int .i64 b.d) ∧ w'.cell? ⟨w.heap.size + 1, 2, none⟩ = some (.int .i8 b.g) ∧ w'.cell? ⟨w.heap.size + 1, 3, none⟩ = some (.int .i64 b.e)) (first | (with_reducible exact ⟨kHA0, kHA1, kHA2, kHA3, kHC0, kHC1, kHC2, kHC3⟩) | (with_reducible exact ⟨kHA0z, kHA1z, kHA2z, kHA3z, kHC0z, kHC1z, kHC2z, kHC3z⟩) | (with_reducible exact ⟨HA_u3.1.c0, HA_u3.1.c1, HA_u3.1.c2, HA_u3.1.c3, HC_u3.1.c0, HC_u3.1.c1, HC_u3.1.c2, HC_u3.1.c3⟩) | (with_reducible exact ⟨HA_u4.1.c0, HA_u4.1.c1, HA_u4.1.c2, HA_u4.1.c3, HC_u4.1.c0, HC_u4.1.c1, HC_u4.1.c2, HC_u4.1.c3⟩) | (with_reducible exact ⟨HA_u5.1.c0, HA_u5.1.c1, HA_u5.1.c2, HA_u5.1.c3, HC_u5.1.c0, HC_u5.1.c1, HC_u5.1.c2, HC_u5.1.c3⟩) | (with_reducible exact ⟨HA_u6.1.c0, HA_u6.1.c1, HA_u6.1.c2, HA_u6.1.c3, HC_u6.1.c0, HC_u6.1.c1, HC_u6.1.c2, HC_u6.1.c3⟩) | (with_reducible exact ⟨HA_u7.1.c0, HA_u7.1.c1, HA_u7.1.c2, HA_u7.1.c3, HC_u7.1.c0, HC_u7.1.c1, HC_u7.1.c2, HC_u7.1.c3⟩) | (with_reducible exact ⟨HA_u8.1.c0, HA_u8.1.c1, HA_u8.1.c2, HA_u8.1.c3, HC_u8.1.c0, HC_u8.1.c1, HC_u8.1.c2, HC_u8.1.c3⟩) | go_keep)
  (first
   | (go_at_call 9; (with_reducible show Calls _ _ _ u2.drew _); (with_reducible refine (k3.1 _ HBz.1.below).mono ?_); rintro e u3 ⟨rfl, hb⟩; have HB_u3 := Kp.mk (HBz.1.step hb); have HA_u3 := Kp.mk (HAz.1.step hb); have HC_u3 := Kp.mk (HCz.1.step hb); clear hb)
   | (go_at_call 9; (with_reducible show Calls _ _ _ u3 _); (with_reducible refine (k4.1 _ HB_u3.1.below).mono ?_); rintro e u4 ⟨rfl, hb⟩; have HB_u4 := Kp.mk (HB_u3.1.step hb); have HA_u4 := Kp.mk (HA_u3.1.step hb); have HC_u4 := Kp.mk (HC_u3.1.step hb); clear hb)
   | (go_at_call 10; (with_reducible show Calls _ _ _ u4 _); (with_reducible refine (k5.1 _ HB_u4.1.below).mono ?_); rintro e u5 ⟨rfl, hb⟩; have HB_u5 := Kp.mk (HB_u4.1.step hb); have HA_u5 := Kp.mk (HA_u4.1.step hb); have HC_u5 := Kp.mk (HC_u4.1.step hb); clear hb)
   | (go_at_call 11; (with_reducible show Calls _ _ _ u5 _); (with_reducible refine (k6.1 _).mono ?_); rintro e u6 ⟨rfl, hb⟩; have HB_u6 := Kp.mk (HB_u5.1.step hb); have HA_u6 := Kp.mk (HA_u5.1.step hb); have HC_u6 := Kp.mk (HC_u5.1.step hb); clear hb)
   | (go_at_call 10; (with_reducible show Calls _ _ _ u6 _); (with_reducible refine (k7.1 _ HB_u6.1.below).mono ?_); rintro e u7 ⟨rfl, hb⟩; have HB_u7 := Kp.mk (HB_u6.1.step hb); have HA_u7 := Kp.mk (HA_u6.1.step hb); have HC_u7 := Kp.mk (HC_u6.1.step hb); clear hb)
   | (go_at_call 10; (with_reducible show Calls _ _ _ u7 _); (with_reducible refine (k5.1 _ HB_u7.1.below).mono ?_); rintro e u8 ⟨rfl, hb⟩; have HB_u8 := Kp.mk (HB_u7.1.step hb); have HA_u8 := Kp.mk (HA_u7.1.step hb); have HC_u8 := Kp.mk (HC_u7.1.step hb); clear hb))
 have HB := HB_u8
 have HA := HA_u8
 have HC := HC_u8
 obtain ⟨kHA0, kHA1, kHA2, kHA3⟩ := HA.1.cs
 obtain ⟨kHC0, kHC1, kHC2, kHC3⟩ := HC.1.cs
 go_wp2_with fail
 refine (t1.1 _).mono ?_
 rintro e u9 ⟨rfl, hbl⟩
 clear kHA0 kHA1 kHA2 kHA3 kHC0 kHC1 kHC2 kHC3
 have HB := Kp.mk (HB.1.step hbl)
 have HA := Kp.mk (HA.1.step hbl)
 have HC := Kp.mk (HC.1.step hbl)
 clear hbl
 obtain ⟨kHA0, kHA1, kHA2, kHA3⟩ := HA.1.cs
 obtain ⟨kHC0, kHC1, kHC2, kHC3⟩ := HC.1.cs
 go_wp2_with fail
 refine (m1.1 _).mono ?_
 rintro e u10 ⟨rfl, hbl⟩
 clear kHA0 kHA1 kHA2 kHA3 kHC0 kHC1 kHC2 kHC3
 have HB := Kp.mk (HB.1.step hbl)
 have HA := Kp.mk (HA.1.step hbl)
 have HC := Kp.mk (HC.1.step hbl)
 clear hbl
 obtain ⟨kHA0, kHA1, kHA2, kHA3⟩ := HA.1.cs
 obtain ⟨kHC0, kHC1, kHC2, kHC3⟩ := HC.1.cs
 go_wp2_with fail
 refine (j1.1 _ HB.1.below).mono ?_
 rintro e u11 ⟨rfl, hbl⟩
 clear kHA0 kHA1 kHA2 kHA3 kHC0 kHC1 kHC2 kHC3
 have HB := Kp.mk (HB.1.step hbl)
 have HA := Kp.mk (HA.1.step hbl)
 have HC := Kp.mk (HC.1.step hbl)
 clear hbl
 obtain ⟨kHA0, kHA1, kHA2, kHA3⟩ := HA.1.cs
 obtain ⟨kHC0, kHC1, kHC2, kHC3⟩ := HC.1.cs
 go_upto_region 8 with fail
 clear kHA0 kHA1 kHA2 kHA3 kHC0 kHC1 kHC2 kHC3
 have HR := Kp.mk (rg_new v 26 HB.1.below)
 have hbl := (Below.refl u11.heap.size u11).alloc (Nat.le_refl _) (.cells #[.int .i8 v.f, .int .i64 v.d, .int .i8 v.g, .int .i64 v.e] 26)
 have HB := Kp.mk (HB.1.step hbl)
 have HA := Kp.mk (HA.1.step hbl)
 have HC := Kp.mk (HC.1.step hbl)
 clear hbl
 generalize u11.alloc (.cells #[.int .i8 v.f, .int .i64 v.d, .int .i8 v.g, .int .i64 v.e] 26) = u12 at *
 generalize u11.heap.size = g1 at *
 obtain ⟨kHA0, kHA1, kHA2, kHA3⟩ := HA.1.cs
 obtain ⟨kHC0, kHC1, kHC2, kHC3⟩ := HC.1.cs
 obtain ⟨kHR0, kHR1, kHR2, kHR3⟩ := HR.1.cs
 go_wp2_with fail
 refine (j2.1 _ HB.1.below).mono ?_
 rintro e u13 ⟨rfl, hbl⟩
 clear kHA0 kHA1 kHA2 kHA3 kHC0 kHC1 kHC2 kHC3 kHR0 kHR1 kHR2 kHR3
 have HB := Kp.mk (HB.1.step hbl)
 have HA := Kp.mk (HA.1.step hbl)
 have HC := Kp.mk (HC.1.step hbl)
 have HR := Kp.mk (HR.1.step hbl)
 clear hbl
 obtain ⟨kHA0, kHA1, kHA2, kHA3⟩ := HA.1.cs
 obtain ⟨kHC0, kHC1, kHC2, kHC3⟩ := HC.1.cs
 obtain ⟨kHR0, kHR1, kHR2, kHR3⟩ := HR.1.cs
 go_upto_region 9 with fail
 clear kHA0 kHA1 kHA2 kHA3 kHC0 kHC1 kHC2 kHC3 kHR0 kHR1 kHR2 kHR3
 have HS := Kp.mk (rg_new v 26 HB.1.below)
 have hbl := (Below.refl u13.heap.size u13).alloc (Nat.le_refl _) (.cells #[.int .i8 v.f, .int .i64 v.d, .int .i8 v.g, .int .i64 v.e] 26)
 have HB := Kp.mk (HB.1.step hbl)
 have HA := Kp.mk (HA.1.step hbl)
 have HC := Kp.mk (HC.1.step hbl)
 have HR := Kp.mk (HR.1.step hbl)
 clear hbl
 generalize u13.alloc (.cells #[.int .i8 v.f, .int .i64 v.d, .int .i8 v.g, .int .i64 v.e] 26) = u14 at *
 generalize u13.heap.size = g2 at *
 obtain ⟨kHA0, kHA1, kHA2, kHA3⟩ := HA.1.cs
 obtain ⟨kHC0, kHC1, kHC2, kHC3⟩ := HC.1.cs
 obtain ⟨kHR0, kHR1, kHR2, kHR3⟩ := HR.1.cs
 obtain ⟨kHS0, kHS1, kHS2, kHS3⟩ := HS.1.cs
 go_wp2_with fail
 refine (cm1.1 _ HB.1.below).mono ?_
 rintro e u15 ⟨rfl, hbl⟩
 clear kHA0 kHA1 kHA2 kHA3 kHC0 kHC1 kHC2 kHC3 kHR0 kHR1 kHR2 kHR3 kHS0 kHS1 kHS2 kHS3
 have HB := Kp.mk (HB.1.step hbl)
 have HA := Kp.mk (HA.1.step hbl)
 have HC := Kp.mk (HC.1.step hbl)
 have HR := Kp.mk (HR.1.step hbl)
 have HS := Kp.mk (HS.1.step hbl)
 clear hbl
 obtain ⟨kHA0, kHA1, kHA2, kHA3⟩ := HA.1.cs
 obtain ⟨kHC0, kHC1, kHC2, kHC3⟩ := HC.1.cs
 obtain ⟨kHR0, kHR1, kHR2, kHR3⟩ := HR.1.cs
 obtain ⟨kHS0, kHS1, kHS2, kHS3⟩ := HS.1.cs
 go_upto_region 10 with fail
 clear kHA0 kHA1 kHA2 kHA3 kHC0 kHC1 kHC2 kHC3 kHR0 kHR1 kHR2 kHR3 kHS0 kHS1 kHS2 kHS3
 have HT := Kp.mk (rg_new u 26 HB.1.below)
 have hbl := (Below.refl u15.heap.size u15).alloc (Nat.le_refl _) (.cells #[.int .i8 u.f, .int .i64 u.d, .int .i8 u.g, .int .i64 u.e] 26)
 have HB := Kp.mk (HB.1.step hbl)
 have HA := Kp.mk (HA.1.step hbl)
 have HC := Kp.mk (HC.1.step hbl)
 have HR := Kp.mk (HR.1.step hbl)
 have HS := Kp.mk (HS.1.step hbl)
 clear hbl
 generalize u15.alloc (.cells #[.int .i8 u.f, .int .i64 u.d, .int .i8 u.g, .int .i64 u.e] 26) = u16 at *
 generalize u15.heap.size = g3 at *
 obtain ⟨kHA0, kHA1, kHA2, kHA3⟩ := HA.1.cs
 obtain ⟨kHC0, kHC1, kHC2, kHC3⟩ := HC.1.cs
 obtain ⟨kHR0, kHR1, kHR2, kHR3⟩ := HR.1.cs
 obtain ⟨kHS0, kHS1, kHS2, kHS3⟩ := HS.1.cs
 obtain ⟨kHT0, kHT1, kHT2, kHT3⟩ := HT.1.cs
 go_wp2_with fail
 refine (cm2.1 _ HB.1.below).mono ?_
 rintro e u17 ⟨rfl, hbl⟩
 clear kHA0 kHA1 kHA2 kHA3 kHC0 kHC1 kHC2 kHC3 kHR0 kHR1 kHR2 kHR3 kHS0 kHS1 kHS2 kHS3 kHT0 kHT1 kHT2 kHT3
 have HB := Kp.mk (HB.1.step hbl)
 have HA := Kp.mk (HA.1.step hbl)
 have HC := Kp.mk (HC.1.step hbl)
 have HR := Kp.mk (HR.1.step hbl)
 have HS := Kp.mk (HS.1.step hbl)
 have HT := Kp.mk (HT.1.step hbl)
 clear hbl
 obtain ⟨kHA0, kHA1, kHA2, kHA3⟩ := HA.1.cs
 obtain ⟨kHC0, kHC1, kHC2, kHC3⟩ := HC.1.cs
 obtain ⟨kHR0, kHR1, kHR2, kHR3⟩ := HR.1.cs
 obtain ⟨kHS0, kHS1, kHS2, kHS3⟩ := HS.1.cs
 obtain ⟨kHT0, kHT1, kHT2, kHT3⟩ := HT.1.cs
 go_upto_region 11 with fail
 clear kHA0 kHA1 kHA2 kHA3 kHC0 kHC1 kHC2 kHC3 kHR0 kHR1 kHR2 kHR3 kHS0 kHS1 kHS2 kHS3 kHT0 kHT1 kHT2 kHT3
 have HU := Kp.mk (rg_new u 26 HB.1.below)
 have hbl := (Below.refl u17.heap.size u17).alloc (Nat.le_refl _) (.cells #[.int .i8 u.f, .int .i64 u.d, .int .i8 u.g, .int .i64 u.e] 26)
 have HB := Kp.mk (HB.1.step hbl)
 have HA := Kp.mk (HA.1.step hbl)
 have HC := Kp.mk (HC.1.step hbl)
 have HR := Kp.mk (HR.1.step hbl)
 have HS := Kp.mk (HS.1.step hbl)
 have HT := Kp.mk (HT.1.step hbl)
 clear hbl
 generalize u17.alloc (.cells #[.int .i8 u.f, .int .i64 u.d, .int .i8 u.g, .int .i64 u.e] 26) = u18 at *
 generalize u17.heap.size = g4 at *
 obtain ⟨kHA0, kHA1, kHA2, kHA3⟩ := HA.1.cs
 obtain ⟨kHC0, kHC1, kHC2, kHC3⟩ := HC.1.cs
 obtain ⟨kHR0, kHR1, kHR2, kHR3⟩ := HR.1.cs
 obtain ⟨kHS0, kHS1, kHS2, kHS3⟩ := HS.1.cs
 obtain ⟨kHT0, kHT1, kHT2, kHT3⟩ := HT.1.cs
 obtain ⟨kHU0, kHU1, kHU2, kHU3⟩ := HU.1.cs
 have hbl := (Below.refl u18.heap.size u18).drew
 have HBz := Kp.mk (HB.1.step hbl)
 have HAz := Kp.mk (HA.1.step hbl)
 have HCz := Kp.mk (HC.1.step hbl)
 have HRz := Kp.mk (HR.1.step hbl)
 have HSz := Kp.mk (HS.1.step hbl)
 have HTz := Kp.mk (HT.1.step hbl)
 have HUz := Kp.mk (HU.1.step hbl)
 have kHA0z := HAz.1.c0
 have kHA1z := HAz.1.c1
 have kHA2z := HAz.1.c2
 have kHA3z := HAz.1.c3
 have kHC0z := HCz.1.c0
 have kHC1z := HCz.1.c1
 have kHC2z := HCz.1.c2
 have kHC3z := HCz.1.c3
 have kHR0z := HRz.1.c0
 have kHR1z := HRz.1.c1
 have kHR2z := HRz.1.c2
 have kHR3z := HRz.1.c3
 have kHS0z := HSz.1.c0
 have kHS1z := HSz.1.c1
 have kHS2z := HSz.1.c2
 have kHS3z := HSz.1.c3
 have kHT0z := HTz.1.c0
 have kHT1z := HTz.1.c1
 have kHT2z := HTz.1.c2
 have kHT3z := HTz.1.c3
 have kHU0z := HUz.1.c0
 have kHU1z := HUz.1.c1
 have kHU2z := HUz.1.c2
 have kHU3z := HUz.1.c3
 clear hbl
 go_region_held3 (fun w' => w'.cell? ⟨w.heap.size, 0, none⟩ = some (.int .i8 a.f) ∧ w'.cell? ⟨w.heap.size, 1, none⟩ = some (.int .i64 a.d) ∧ w'.cell? ⟨w.heap.size, 2, none⟩ = some (.int .i8 a.g) ∧ w'.cell? ⟨w.heap.size, 3, none⟩ = some (.int .i64 a.e) ∧ w'.cell? ⟨w.heap.size + 1, 0, none⟩ = some (.int .i8 b.f) ∧ w'.cell? ⟨w.heap.size + 1, 1, none⟩ = some (.int .i64 b.d) ∧ w'.cell? ⟨w.heap.size + 1, 2, none⟩ = some (.int .i8 b.g) ∧ w'.cell? ⟨w.heap.size + 1, 3, none⟩ = some (.int .i64 b.e) ∧ w'.cell? ⟨g1, 0, none⟩ = some (.int .i8 v.f) ∧ w'.cell? ⟨g1, 1, none⟩ = some (.int .i64 v.d) ∧ w'.cell? ⟨g1, 2, none⟩ = some (.int .i8 v.g) ∧ w'.cell? ⟨g1, 3, none⟩ = some (.int .i64 v.e) ∧ w'.cell? ⟨g2, 0, none⟩ = some (.int .i8 v.f) ∧ w'.cell? ⟨g2, 1, none⟩ = some (.int .i64 v.d) ∧ w'.cell? ⟨g2, 2, none⟩ = some (.int .i8 v.g) ∧ w'.cell? ⟨g2, 3, none⟩ = some (.int .i64 v.e) ∧ w'.cell? ⟨g3, 0, none⟩ = some (.int .i8 u.f) ∧ w'.cell? ⟨g3, 1, none⟩ = some (.int .i64 u.d) ∧ w'.cell? ⟨g3, 2, none⟩ = some (.int .i8 u.g) ∧ w'.cell? ⟨g3, 3, none⟩ = some (.int .i64 u.e) ∧ w'.cell? ⟨g4, 0, none⟩ = some (.int .i8 u.f) ∧ w'.cell? ⟨g4, 1, none⟩ = some (.int .i64 u.d) ∧ w'.cell? ⟨g4, 2, none⟩ = some (.int .i8 u.g) ∧ w'.cell? ⟨g4, 3, none⟩ = some (.int .i64 u.e)) (first | (with_reducible exact ⟨kHA0, kHA1, kHA2, kHA3, kHC0, kHC1, kHC2, kHC3, kHR0, kHR1, kHR2, kHR3, kHS0, kHS1, kHS2, kHS3, kHT0, kHT1, kHT2, kHT3, kHU0, kHU1, kHU2, kHU3⟩) | (with_reducible exact ⟨kHA0z, kHA1z, kHA2z, kHA3z, kHC0z, kHC1z, kHC2z, kHC3z, kHR0z, kHR1z, kHR2z, kHR3z, kHS0z, kHS1z, kHS2z, kHS3z, kHT0z, kHT1z, kHT2z, kHT3z, kHU0z, kHU1z, kHU2z, kHU3z⟩) | (with_reducible exact ⟨HA_u19.1.c0, HA_u19.1.c1, HA_u19.1.c2, HA_u19.1.c3, HC_u19.1.c0, HC_u19.1.c1, HC_u19.1.c2, HC_u19.1.c3, HR_u19.1.c0, HR_u19.1.c1, HR_u19.1.c2, HR_u19.1.c3, HS_u19.1.c0, HS_u19.1.c1, HS_u19.1.c2, HS_u19.1.c3, HT_u19.1.c0, HT_u19.1.c1, HT_u19.1.c2, HT_u19.1.c3, HU_u19.1.c0, HU_u19.1.c1, HU_u19.1.c2, HU_u19.1.c3⟩) | (with_reducible exact ⟨HA_u20.1.c0, HA_u20.1.c1, HA_u20.1.c2, HA_u20.1.c3, HC_u20.1.c0, HC_u20.1.c1, HC_u20.1.c2, HC_u20.1.c3, HR_u20.1.c0, HR_u20.1.c1, HR_u20.1.c2, HR_u20.1.c3, HS_u20.1.c0, HS_u20.1.c1, HS_u20.1.c2, HS_u20.1.c3, HT_u20.1.c0, HT_u20.1.c1, HT_u20.1.c2, HT_u20.1.c3, HU_u20.1.c0, HU_u20.1.c1, HU_u20.1.c2, HU_u20.1.c3⟩) | (with_reducible exact ⟨HA_u21.1.c0, HA_u21.1.c1, HA_u21.1.c2, HA_u21.1.c3, HC_u21.1.c0, HC_u21.1.c1, HC_u21.1.c2, HC_u21.1.c3, HR_u21.1.c0, HR_u21.1.c1, HR_u21.1.c2, HR_u21.1.c3, HS_u21.1.c0, HS_u21.1.c1, HS_u21.1.c2, HS_u21.1.c3, HT_u21.1.c0, HT_u21.1.c1, HT_u21.1.c2, HT_u21.1.c3, HU_u21.1.c0, HU_u21.1.c1, HU_u21.1.c2, HU_u21.1.c3⟩) | (with_reducible exact ⟨HA_u22.1.c0, HA_u22.1.c1, HA_u22.1.c2, HA_u22.1.c3, HC_u22.1.c0, HC_u22.1.c1, HC_u22.1.c2, HC_u22.1.c3, HR_u22.1.c0, HR_u22.1.c1, HR_u22.1.c2, HR_u22.1.c3, HS_u22.1.c0, HS_u22.1.c1, HS_u22.1.c2, HS_u22.1.c3, HT_u22.1.c0, HT_u22.1.c1, HT_u22.1.c2, HT_u22.1.c3, HU_u22.1.c0, HU_u22.1.c1, HU_u22.1.c2, HU_u22.1.c3⟩) | (with_reducible exact ⟨HA_u23.1.c0, HA_u23.1.c1, HA_u23.1.c2, HA_u23.1.c3, HC_u23.1.c0, HC_u23.1.c1, HC_u23.1.c2, HC_u23.1.c3, HR_u23.1.c0, HR_u23.1.c1, HR_u23.1.c2, HR_u23.1.c3, HS_u23.1.c0, HS_u23.1.c1, HS_u23.1.c2, HS_u23.1.c3, HT_u23.1.c0, HT_u23.1.c1, HT_u23.1.c2, HT_u23.1.c3, HU_u23.1.c0, HU_u23.1.c1, HU_u23.1.c2, HU_u23.1.c3⟩) | (with_reducible exact ⟨HA_u24.1.c0, HA_u24.1.c1, HA_u24.1.c2, HA_u24.1.c3, HC_u24.1.c0, HC_u24.1.c1, HC_u24.1.c2, HC_u24.1.c3, HR_u24.1.c0, HR_u24.1.c1, HR_u24.1.c2, HR_u24.1.c3, HS_u24.1.c0, HS_u24.1.c1, HS_u24.1.c2, HS_u24.1.c3, HT_u24.1.c0, HT_u24.1.c1, HT_u24.1.c2, HT_u24.1.c3, HU_u24.1.c0, HU_u24.1.c1, HU_u24.1.c2, HU_u24.1.c3⟩) | go_keep)
  (first
   | (go_at_call 16; (with_reducible show Calls _ _ _ u18.drew _); (with_reducible refine (y1.1 _ HBz.1.below).mono ?_); rintro e u19 ⟨rfl, hb⟩; have HB_u19 := Kp.mk (HBz.1.step hb); have HA_u19 := Kp.mk (HAz.1.step hb); have HC_u19 := Kp.mk (HCz.1.step hb); have HR_u19 := Kp.mk (HRz.1.step hb); have HS_u19 := Kp.mk (HSz.1.step hb); have HT_u19 := Kp.mk (HTz.1.step hb); have HU_u19 := Kp.mk (HUz.1.step hb); clear hb)
   | (go_at_call 16; (with_reducible show Calls _ _ _ u19 _); (with_reducible refine (y2.1 _ HB_u19.1.below).mono ?_); rintro e u20 ⟨rfl, hb⟩; have HB_u20 := Kp.mk (HB_u19.1.step hb); have HA_u20 := Kp.mk (HA_u19.1.step hb); have HC_u20 := Kp.mk (HC_u19.1.step hb); have HR_u20 := Kp.mk (HR_u19.1.step hb); have HS_u20 := Kp.mk (HS_u19.1.step hb); have HT_u20 := Kp.mk (HT_u19.1.step hb); have HU_u20 := Kp.mk (HU_u19.1.step hb); clear hb)
   | (go_at_call 18; (with_reducible show Calls _ _ _ u20 _); (with_reducible refine (q1.1 _).mono ?_); rintro e u21 ⟨rfl, hb⟩; have HB_u21 := Kp.mk (HB_u20.1.step hb); have HA_u21 := Kp.mk (HA_u20.1.step hb); have HC_u21 := Kp.mk (HC_u20.1.step hb); have HR_u21 := Kp.mk (HR_u20.1.step hb); have HS_u21 := Kp.mk (HS_u20.1.step hb); have HT_u21 := Kp.mk (HT_u20.1.step hb); have HU_u21 := Kp.mk (HU_u20.1.step hb); clear hb)
   | (go_at_call 17; (with_reducible show Calls _ _ _ u21 _); (with_reducible refine (f1.1 _).mono ?_); rintro e u22 ⟨rfl, hb⟩; have HB_u22 := Kp.mk (HB_u21.1.step hb); have HA_u22 := Kp.mk (HA_u21.1.step hb); have HC_u22 := Kp.mk (HC_u21.1.step hb); have HR_u22 := Kp.mk (HR_u21.1.step hb); have HS_u22 := Kp.mk (HS_u21.1.step hb); have HT_u22 := Kp.mk (HT_u21.1.step hb); have HU_u22 := Kp.mk (HU_u21.1.step hb); clear hb)
   | (go_at_call 19; (with_reducible show Calls _ _ _ u22 _); (with_reducible refine (q2.1 _).mono ?_); rintro e u23 ⟨rfl, hb⟩; have HB_u23 := Kp.mk (HB_u22.1.step hb); have HA_u23 := Kp.mk (HA_u22.1.step hb); have HC_u23 := Kp.mk (HC_u22.1.step hb); have HR_u23 := Kp.mk (HR_u22.1.step hb); have HS_u23 := Kp.mk (HS_u22.1.step hb); have HT_u23 := Kp.mk (HT_u22.1.step hb); have HU_u23 := Kp.mk (HU_u22.1.step hb); clear hb)
   | (go_at_call 17; (with_reducible show Calls _ _ _ u23 _); (with_reducible refine (f2.1 _).mono ?_); rintro e u24 ⟨rfl, hb⟩; have HB_u24 := Kp.mk (HB_u23.1.step hb); have HA_u24 := Kp.mk (HA_u23.1.step hb); have HC_u24 := Kp.mk (HC_u23.1.step hb); have HR_u24 := Kp.mk (HR_u23.1.step hb); have HS_u24 := Kp.mk (HS_u23.1.step hb); have HT_u24 := Kp.mk (HT_u23.1.step hb); have HU_u24 := Kp.mk (HU_u23.1.step hb); clear hb))
 have HB := HB_u24
 have HA := HA_u24
 have HC := HC_u24
 have HR := HR_u24
 have HS := HS_u24
 have HT := HT_u24
 have HU := HU_u24
 obtain ⟨kHA0, kHA1, kHA2, kHA3⟩ := HA.1.cs
 obtain ⟨kHC0, kHC1, kHC2, kHC3⟩ := HC.1.cs
 obtain ⟨kHR0, kHR1, kHR2, kHR3⟩ := HR.1.cs
 obtain ⟨kHS0, kHS1, kHS2, kHS3⟩ := HS.1.cs
 obtain ⟨kHT0, kHT1, kHT2, kHT3⟩ := HT.1.cs
 obtain ⟨kHU0, kHU1, kHU2, kHU3⟩ := HU.1.cs
 clear kHA0 kHA1 kHA2 kHA3 kHC0 kHC1 kHC2 kHC3 kHR0 kHR1 kHR2 kHR3 kHS0 kHS1 kHS2 kHS3 kHT0 kHT1 kHT2 kHT3 kHU0 kHU1 kHU2 kHU3
 clear HS HU
 obtain ⟨kHA0, kHA1, kHA2, kHA3⟩ := HA.1.cs
 obtain ⟨kHC0, kHC1, kHC2, kHC3⟩ := HC.1.cs
 obtain ⟨kHR0, kHR1, kHR2, kHR3⟩ := HR.1.cs
 obtain ⟨kHT0, kHT1, kHT2, kHT3⟩ := HT.1.cs
 go_wp2_with fail
 refine (in1.1 _ HB.1.below).mono ?_
 rintro e u25 ⟨rfl, hbl⟩
 clear kHA0 kHA1 kHA2 kHA3 kHC0 kHC1 kHC2 kHC3 kHR0 kHR1 kHR2 kHR3 kHT0 kHT1 kHT2 kHT3
 have HB := Kp.mk (HB.1.step hbl)
 have HA := Kp.mk (HA.1.step hbl)
 have HC := Kp.mk (HC.1.step hbl)
 have HR := Kp.mk (HR.1.step hbl)
 have HT := Kp.mk (HT.1.step hbl)
 clear hbl
 obtain ⟨kHA0, kHA1, kHA2, kHA3⟩ := HA.1.cs
 obtain ⟨kHC0, kHC1, kHC2, kHC3⟩ := HC.1.cs
 obtain ⟨kHR0, kHR1, kHR2, kHR3⟩ := HR.1.cs
 obtain ⟨kHT0, kHT1, kHT2, kHT3⟩ := HT.1.cs
 go_wp2_with fail
 refine (in2.1 _).mono ?_
 rintro e u26 ⟨rfl, hbl⟩
 clear kHA0 kHA1 kHA2 kHA3 kHC0 kHC1 kHC2 kHC3 kHR0 kHR1 kHR2 kHR3 kHT0 kHT1 kHT2 kHT3
 have HB := Kp.mk (HB.1.step hbl)
 have HA := Kp.mk (HA.1.step hbl)
 have HC := Kp.mk (HC.1.step hbl)
 have HR := Kp.mk (HR.1.step hbl)
 have HT := Kp.mk (HT.1.step hbl)
 clear hbl
 obtain ⟨kHA0, kHA1, kHA2, kHA3⟩ := HA.1.cs
 obtain ⟨kHC0, kHC1, kHC2, kHC3⟩ := HC.1.cs
 obtain ⟨kHR0, kHR1, kHR2, kHR3⟩ := HR.1.cs
 obtain ⟨kHT0, kHT1, kHT2, kHT3⟩ := HT.1.cs
 go_wp2_with fail
 refine (d1.1 _ HB.1.below).mono ?_
 rintro e u27 ⟨rfl, hbl⟩
 clear kHA0 kHA1 kHA2 kHA3 kHC0 kHC1 kHC2 kHC3 kHR0 kHR1 kHR2 kHR3 kHT0 kHT1 kHT2 kHT3
 have HB := Kp.mk (HB.1.step hbl)
 have HA := Kp.mk (HA.1.step hbl)
 have HC := Kp.mk (HC.1.step hbl)
 have HR := Kp.mk (HR.1.step hbl)
 have HT := Kp.mk (HT.1.step hbl)
 clear hbl
 obtain ⟨kHA0, kHA1, kHA2, kHA3⟩ := HA.1.cs
 obtain ⟨kHC0, kHC1, kHC2, kHC3⟩ := HC.1.cs
 obtain ⟨kHR0, kHR1, kHR2, kHR3⟩ := HR.1.cs
 obtain ⟨kHT0, kHT1, kHT2, kHT3⟩ := HT.1.cs
 go_wp2_with fail
 refine (d2.1 _).mono ?_
 rintro e u28 ⟨rfl, hbl⟩
 clear kHA0 kHA1 kHA2 kHA3 kHC0 kHC1 kHC2 kHC3 kHR0 kHR1 kHR2 kHR3 kHT0 kHT1 kHT2 kHT3
 have HB := Kp.mk (HB.1.step hbl)
 have HA := Kp.mk (HA.1.step hbl)
 have HC := Kp.mk (HC.1.step hbl)
 have HR := Kp.mk (HR.1.step hbl)
 have HT := Kp.mk (HT.1.step hbl)
 clear hbl
 obtain ⟨kHA0, kHA1, kHA2, kHA3⟩ := HA.1.cs
 obtain ⟨kHC0, kHC1, kHC2, kHC3⟩ := HC.1.cs
 obtain ⟨kHR0, kHR1, kHR2, kHR3⟩ := HR.1.cs
 obtain ⟨kHT0, kHT1, kHT2, kHT3⟩ := HT.1.cs
 go_upto_region 15 with fail
 have hbl := (Below.refl u28.heap.size u28).drew
 have HBz := Kp.mk (HB.1.step hbl)
 have HAz := Kp.mk (HA.1.step hbl)
 have HCz := Kp.mk (HC.1.step hbl)
 have HRz := Kp.mk (HR.1.step hbl)
 have HTz := Kp.mk (HT.1.step hbl)
 have kHA0z := HAz.1.c0
 have kHA1z := HAz.1.c1
 have kHA2z := HAz.1.c2
 have kHA3z := HAz.1.c3
 have kHC0z := HCz.1.c0
 have kHC1z := HCz.1.c1
 have kHC2z := HCz.1.c2
 have kHC3z := HCz.1.c3
 have kHR0z := HRz.1.c0
 have kHR1z := HRz.1.c1
 have kHR2z := HRz.1.c2
 have kHR3z := HRz.1.c3
 have kHT0z := HTz.1.c0
 have kHT1z := HTz.1.c1
 have kHT2z := HTz.1.c2
 have kHT3z := HTz.1.c3
 clear hbl
 clear kHA0 kHA1 kHA2 kHA3 kHC0 kHC1 kHC2 kHC3 kHR0 kHR1 kHR2 kHR3 kHT0 kHT1 kHT2 kHT3
 refine wp_region_held_drew (S := fun w' => w'.cell? ⟨w.heap.size, 0, none⟩ = some (.int .i8 a.f) ∧ w'.cell? ⟨w.heap.size, 1, none⟩ = some (.int .i64 a.d) ∧ w'.cell? ⟨w.heap.size, 2, none⟩ = some (.int .i8 a.g) ∧ w'.cell? ⟨w.heap.size, 3, none⟩ = some (.int .i64 a.e) ∧ w'.cell? ⟨w.heap.size + 1, 0, none⟩ = some (.int .i8 b.f) ∧ w'.cell? ⟨w.heap.size + 1, 1, none⟩ = some (.int .i64 b.d) ∧ w'.cell? ⟨w.heap.size + 1, 2, none⟩ = some (.int .i8 b.g) ∧ w'.cell? ⟨w.heap.size + 1, 3, none⟩ = some (.int .i64 b.e) ∧ w'.cell? ⟨g1, 0, none⟩ = some (.int .i8 v.f) ∧ w'.cell? ⟨g1, 1, none⟩ = some (.int .i64 v.d) ∧ w'.cell? ⟨g1, 2, none⟩ = some (.int .i8 v.g) ∧ w'.cell? ⟨g1, 3, none⟩ = some (.int .i64 v.e) ∧ w'.cell? ⟨g3, 0, none⟩ = some (.int .i8 u.f) ∧ w'.cell? ⟨g3, 1, none⟩ = some (.int .i64 u.d) ∧ w'.cell? ⟨g3, 2, none⟩ = some (.int .i8 u.g) ∧ w'.cell? ⟨g3, 3, none⟩ = some (.int .i64 u.e)) (by kernel_rfl) ?_ (fun hHeld => ?_)
 ·with_reducible exact ⟨kHA0z, kHA1z, kHA2z, kHA3z, kHC0z, kHC1z, kHC2z, kHC3z, kHR0z, kHR1z, kHR2z, kHR3z, kHT0z, kHT1z, kHT2z, kHT3z⟩
 refine tk 0 ?_ rfl hHeld ?_ ?_
 rotate_left
 ·(intro w hSw; (try dsimp only at hSw); go_simp; try with_reducible rfl)
 try simp only [pt]
 refine tk 1 ?_ rfl hHeld ?_ ?_
 rotate_left
 ·(intro w hSw; (try dsimp only at hSw); go_simp; try with_reducible rfl)
 try simp only [pt]
 refine tk 2 ?_ rfl hHeld ?_ ?_
 rotate_left
 ·(intro w hSw; (try dsimp only at hSw); go_simp; try with_reducible rfl)
 try simp only [pt]
 refine tk 3 ?_ rfl hHeld ?_ ?_
 rotate_left
 ·(intro w hSw; (try dsimp only at hSw); go_simp; try with_reducible rfl)
 try simp only [pt]
 refine tk 5 ?_ rfl hHeld ?_ ?_
 rotate_left
 ·(intro w hSw; (try dsimp only at hSw); go_simp; try with_reducible rfl)
 try simp only [pt]
 refine tk 6 ?_ rfl hHeld ?_ ?_
 rotate_left
 ·(intro w hSw; (try dsimp only at hSw); go_simp; try with_reducible rfl)
 try simp only [pt]
 refine rd [4] ?_
 refine AllReadyH.cons (dropAt rfl) (fun K hK => ?_) AllReadyH.nil
 go_simp
 go_at_call 22
 with_reducible refine (d4.1 _ HBz.1.below).mono ?_
 rintro e u29 ⟨rfl, hb⟩
 have HB_u29 := Kp.mk (HBz.1.step hb)
 have HA_u29 := Kp.mk (HAz.1.step hb)
 have HC_u29 := Kp.mk (HCz.1.step hb)
 have HR_u29 := Kp.mk (HRz.1.step hb)
 have HT_u29 := Kp.mk (HTz.1.step hb)
 have kHA0_u29 := HA_u29.1.c0
 have kHA1_u29 := HA_u29.1.c1
 have kHA2_u29 := HA_u29.1.c2
 have kHA3_u29 := HA_u29.1.c3
 have kHC0_u29 := HC_u29.1.c0
 have kHC1_u29 := HC_u29.1.c1
 have kHC2_u29 := HC_u29.1.c2
 have kHC3_u29 := HC_u29.1.c3
 have kHR0_u29 := HR_u29.1.c0
 have kHR1_u29 := HR_u29.1.c1
 have kHR2_u29 := HR_u29.1.c2
 have kHR3_u29 := HR_u29.1.c3
 have kHT0_u29 := HT_u29.1.c0
 have kHT1_u29 := HT_u29.1.c1
 have kHT2_u29 := HT_u29.1.c2
 have kHT3_u29 := HT_u29.1.c3
 clear hHeld kHA0z kHA1z kHA2z kHA3z kHC0z kHC1z kHC2z kHC3z kHR0z kHR1z kHR2z kHR3z kHT0z kHT1z kHT2z kHT3z HBz HAz HCz HRz HTz hb
 go_wp2_with fail
 refine hK.out _ _ ?_ (fun hHeld => ?_)
 ·with_reducible exact ⟨kHA0_u29, kHA1_u29, kHA2_u29, kHA3_u29, kHC0_u29, kHC1_u29, kHC2_u29, kHC3_u29, kHR0_u29, kHR1_u29, kHR2_u29, kHR3_u29, kHT0_u29, kHT1_u29, kHT2_u29, kHT3_u29⟩
 clear hK K
 try simp only [pt]
 refine rd [7] ?_
 refine AllReadyH.cons (dropAt rfl) (fun K hK => ?_) AllReadyH.nil
 go_simp
 go_at_call 22
 with_reducible refine (d1.1 _ HB_u29.1.below).mono ?_
 rintro e u30 ⟨rfl, hb⟩
 have HB_u30 := Kp.mk (HB_u29.1.step hb)
 have HA_u30 := Kp.mk (HA_u29.1.step hb)
 have HC_u30 := Kp.mk (HC_u29.1.step hb)
 have HR_u30 := Kp.mk (HR_u29.1.step hb)
 have HT_u30 := Kp.mk (HT_u29.1.step hb)
 have kHA0_u30 := HA_u30.1.c0
 have kHA1_u30 := HA_u30.1.c1
 have kHA2_u30 := HA_u30.1.c2
 have kHA3_u30 := HA_u30.1.c3
 have kHC0_u30 := HC_u30.1.c0
 have kHC1_u30 := HC_u30.1.c1
 have kHC2_u30 := HC_u30.1.c2
 have kHC3_u30 := HC_u30.1.c3
 have kHR0_u30 := HR_u30.1.c0
 have kHR1_u30 := HR_u30.1.c1
 have kHR2_u30 := HR_u30.1.c2
 have kHR3_u30 := HR_u30.1.c3
 have kHT0_u30 := HT_u30.1.c0
 have kHT1_u30 := HT_u30.1.c1
 have kHT2_u30 := HT_u30.1.c2
 have kHT3_u30 := HT_u30.1.c3
 clear hHeld kHA0_u29 kHA1_u29 kHA2_u29 kHA3_u29 kHC0_u29 kHC1_u29 kHC2_u29 kHC3_u29 kHR0_u29 kHR1_u29 kHR2_u29 kHR3_u29 kHT0_u29 kHT1_u29 kHT2_u29 kHT3_u29 HB_u29 HA_u29 HC_u29 HR_u29 HT_u29 hb
 go_wp2_with fail
 refine hK.out _ _ ?_ (fun hHeld => ?_)
 ·with_reducible exact ⟨kHA0_u30, kHA1_u30, kHA2_u30, kHA3_u30, kHC0_u30, kHC1_u30, kHC2_u30, kHC3_u30, kHR0_u30, kHR1_u30, kHR2_u30, kHR3_u30, kHT0_u30, kHT1_u30, kHT2_u30, kHT3_u30⟩
 clear hK K
 try simp only [pt]
 refine tk 8 ?_ rfl hHeld ?_ ?_
 rotate_left
 ·(intro w hSw; (try dsimp only at hSw); go_simp; try with_reducible rfl)
 try simp only [pt]
 refine takeOut (i := 9) rfl (by kernel_rfl) (by kernel_rfl) (by kernel_rfl) (fun _ _ _ h => h) (by rfl) hHeld ?_
 try simp only [pt]
 refine takeOut (i := 10) rfl (by kernel_rfl) (by kernel_rfl) (by kernel_rfl) (fun _ _ _ h => h) (by rfl) hHeld ?_
 try simp only [pt]
 refine takeOut (i := 11) rfl (by kernel_rfl) (by kernel_rfl) (by kernel_rfl) (fun _ _ _ h => h) (by rfl) hHeld ?_
 try simp only [pt]
 refine tk 12 ?_ rfl hHeld ?_ ?_
 rotate_left
 ·(intro w hSw; (try dsimp only at hSw); go_simp; try with_reducible rfl)
 try simp only [pt]
 refine tk 13 ?_ rfl hHeld ?_ ?_
 rotate_left
 ·(intro w hSw; (try dsimp only at hSw); go_simp; try with_reducible rfl)
 try simp only [pt]
 refine tk 14 ?_ rfl hHeld ?_ ?_
 rotate_left
 ·(intro w hSw; (try dsimp only at hSw); go_simp; try with_reducible rfl)
 try simp only [pt]
 refine wpAnyH_done (by kernel_rfl) ?_ _
 have HB := HB_u30
 have HA := HA_u30
 have HC := HC_u30
 have HR := HR_u30
 have HT := HT_u30
 obtain ⟨kHA0, kHA1, kHA2, kHA3⟩ := HA.1.cs
 obtain ⟨kHC0, kHC1, kHC2, kHC3⟩ := HC.1.cs
 obtain ⟨kHR0, kHR1, kHR2, kHR3⟩ := HR.1.cs
 obtain ⟨kHT0, kHT1, kHT2, kHT3⟩ := HT.1.cs
 clear kHA0 kHA1 kHA2 kHA3 kHC0 kHC1 kHC2 kHC3 kHR0 kHR1 kHR2 kHR3 kHT0 kHT1 kHT2 kHT3
 clear HR
 obtain ⟨kHA0, kHA1, kHA2, kHA3⟩ := HA.1.cs
 obtain ⟨kHC0, kHC1, kHC2, kHC3⟩ := HC.1.cs
 obtain ⟨kHT0, kHT1, kHT2, kHT3⟩ := HT.1.cs
 go_upto_region 17 with fail
 have hbl := (Below.refl u30.heap.size u30).drew
 have HBz := Kp.mk (HB.1.step hbl)
 have HAz := Kp.mk (HA.1.step hbl)
 have HCz := Kp.mk (HC.1.step hbl)
 have HTz := Kp.mk (HT.1.step hbl)
 have kHA0z := HAz.1.c0
 have kHA1z := HAz.1.c1
 have kHA2z := HAz.1.c2
 have kHA3z := HAz.1.c3
 have kHC0z := HCz.1.c0
 have kHC1z := HCz.1.c1
 have kHC2z := HCz.1.c2
 have kHC3z := HCz.1.c3
 have kHT0z := HTz.1.c0
 have kHT1z := HTz.1.c1
 have kHT2z := HTz.1.c2
 have kHT3z := HTz.1.c3
 clear hbl
 go_region_held3 (fun w' => w'.cell? ⟨w.heap.size, 0, none⟩ = some (.int .i8 a.f) ∧ w'.cell? ⟨w.heap.size, 1, none⟩ = some (.int .i64 a.d) ∧ w'.cell? ⟨w.heap.size, 2, none⟩ = some (.int .i8 a.g) ∧ w'.cell? ⟨w.heap.size, 3, none⟩ = some (.int .i64 a.e) ∧ w'.cell? ⟨w.heap.size + 1, 0, none⟩ = some (.int .i8 b.f) ∧ w'.cell? ⟨w.heap.size + 1, 1, none⟩ = some (.int .i64 b.d) ∧ w'.cell? ⟨w.heap.size + 1, 2, none⟩ = some (.int .i8 b.g) ∧ w'.cell? ⟨w.heap.size + 1, 3, none⟩ = some (.int .i64 b.e) ∧ w'.cell? ⟨g3, 0, none⟩ = some (.int .i8 u.f) ∧ w'.cell? ⟨g3, 1, none⟩ = some (.int .i64 u.d) ∧ w'.cell? ⟨g3, 2, none⟩ = some (.int .i8 u.g) ∧ w'.cell? ⟨g3, 3, none⟩ = some (.int .i64 u.e)) (first | (with_reducible exact ⟨kHA0, kHA1, kHA2, kHA3, kHC0, kHC1, kHC2, kHC3, kHT0, kHT1, kHT2, kHT3⟩) | (with_reducible exact ⟨kHA0z, kHA1z, kHA2z, kHA3z, kHC0z, kHC1z, kHC2z, kHC3z, kHT0z, kHT1z, kHT2z, kHT3z⟩) | (with_reducible exact ⟨HA_u31.1.c0, HA_u31.1.c1, HA_u31.1.c2, HA_u31.1.c3, HC_u31.1.c0, HC_u31.1.c1, HC_u31.1.c2, HC_u31.1.c3, HT_u31.1.c0, HT_u31.1.c1, HT_u31.1.c2, HT_u31.1.c3⟩) | (with_reducible exact ⟨HA_u32.1.c0, HA_u32.1.c1, HA_u32.1.c2, HA_u32.1.c3, HC_u32.1.c0, HC_u32.1.c1, HC_u32.1.c2, HC_u32.1.c3, HT_u32.1.c0, HT_u32.1.c1, HT_u32.1.c2, HT_u32.1.c3⟩) | (with_reducible exact ⟨HA_u33.1.c0, HA_u33.1.c1, HA_u33.1.c2, HA_u33.1.c3, HC_u33.1.c0, HC_u33.1.c1, HC_u33.1.c2, HC_u33.1.c3, HT_u33.1.c0, HT_u33.1.c1, HT_u33.1.c2, HT_u33.1.c3⟩) | (with_reducible exact ⟨HA_u34.1.c0, HA_u34.1.c1, HA_u34.1.c2, HA_u34.1.c3, HC_u34.1.c0, HC_u34.1.c1, HC_u34.1.c2, HC_u34.1.c3, HT_u34.1.c0, HT_u34.1.c1, HT_u34.1.c2, HT_u34.1.c3⟩) | go_keep)
  (first
   | (go_at_call 22; (with_reducible show Calls _ _ _ u30.drew _); (with_reducible refine (d5.1 _ HBz.1.below).mono ?_); rintro e u31 ⟨rfl, hb⟩; have HB_u31 := Kp.mk (HBz.1.step hb); have HA_u31 := Kp.mk (HAz.1.step hb); have HC_u31 := Kp.mk (HCz.1.step hb); have HT_u31 := Kp.mk (HTz.1.step hb); clear hb)
   | (go_at_call 22; (with_reducible show Calls _ _ _ u31 _); (with_reducible refine (d1.1 _ HB_u31.1.below).mono ?_); rintro e u32 ⟨rfl, hb⟩; have HB_u32 := Kp.mk (HB_u31.1.step hb); have HA_u32 := Kp.mk (HA_u31.1.step hb); have HC_u32 := Kp.mk (HC_u31.1.step hb); have HT_u32 := Kp.mk (HT_u31.1.step hb); clear hb)
   | (go_at_call 22; (with_reducible show Calls _ _ _ u32 _); (with_reducible refine (d3.1 _ HB_u32.1.below).mono ?_); rintro e u33 ⟨rfl, hb⟩; have HB_u33 := Kp.mk (HB_u32.1.step hb); have HA_u33 := Kp.mk (HA_u32.1.step hb); have HC_u33 := Kp.mk (HC_u32.1.step hb); have HT_u33 := Kp.mk (HT_u32.1.step hb); clear hb)
   | (go_at_call 24; (with_reducible show Calls _ _ _ u33 _); (with_reducible refine (rl.1 _ HB_u33.1.below).mono ?_); rintro e u34 ⟨rfl, hb⟩; have HB_u34 := Kp.mk (HB_u33.1.step hb); have HA_u34 := Kp.mk (HA_u33.1.step hb); have HC_u34 := Kp.mk (HC_u33.1.step hb); have HT_u34 := Kp.mk (HT_u33.1.step hb); clear hb))
 have HB := HB_u34
 have HA := HA_u34
 have HC := HC_u34
 have HT := HT_u34
 obtain ⟨kHA0, kHA1, kHA2, kHA3⟩ := HA.1.cs
 obtain ⟨kHC0, kHC1, kHC2, kHC3⟩ := HC.1.cs
 obtain ⟨kHT0, kHT1, kHT2, kHT3⟩ := HT.1.cs
 go_wp2_with fail
 go_ret
 exact ⟨rfl, HB.1.below⟩
end Go.Proofs.YteddfolhpoikcaaGreatDoor
