/-
  DERIVED. WALKS of the laws CivilsDay, CivilsOrder, given the contracts of package civils. Written by mkciv.py.
-/
import Derived.Test.YtoafigehcgledaaGreatDoorPCo
namespace Go.Proofs.YtoafigehcgledaaGreatDoor
open Go.RowKit

set_option maxRecDepth 100000 in
set_option maxHeartbeats 4000000 in
theorem lawDay_any {I : World → Prop} (C : CivFns I) (y m d : Int) (w : World) (hI : I w) (y0 : -9223372036854775808 ≤ y) (y1 : y ≤ 9223372036854775807) (m0 : -9223372036854775808 ≤ m) (m1 : m ≤ 9223372036854775807) (d0 : -9223372036854775808 ≤ d) (d1 : d ≤ 9223372036854775807) :
    Calls Tryz.prog 3 #[.agg #[.int .i64 y, .int .i64 m, .int .i64 d]] w fun e w' => e = .returned (.bool true) ∧ Below w.heap.size w w' := by
  have HA := Kp.mk (cv_new y m d 23 (Below.refl w.heap.size w))
  have HB := Kp.mk HA.out.bl
  have HI := Kp.mk (fun (v : World) (h : Below w.heap.size w v) => C.keep hI h)
  clear hI
  have rl := Kp.mk (fun v (hw : Below w.heap.size w v) => C.lives v (HI.out v hw))
  obtain ⟨c, hc⟩ : ∃ c, chkC y m d = c := ⟨_, rfl⟩
  have r1 := Kp.mk (fun w => refCChk_is w hc)
  have r4 := Kp.mk (fun v (hw : Below w.heap.size w v) => C.check v (HI.out v hw) y0 y1 m0 m1 d0 d1 hc)
  by_cases h0 : c = 0
  · subst h0
    have hR := (chkC_iff y m d).1 hc
    have hyr := (isY_iff y).1 hR.yr
    obtain ⟨v, hv⟩ : ∃ v, Dc y m d = v := ⟨_, rfl⟩
    obtain ⟨n, hn⟩ : ∃ n, ordC y m d = n := ⟨_, rfl⟩
    obtain ⟨s, hs⟩ : ∃ s, Sd y = s := ⟨_, rfl⟩
    have hsi := Sd_in hR.yr
    have hoi := ord_in hR
    have htwo := lenI_two y
    have hnv : v - s + 1 = n := by rw [← hv, ← hs, ← hn]; rfl
    rw [hn] at hoi
    rw [hs] at hsi
    have w1 : IntKind.i64.wrap (v - s) = v - s := IntWalk.i64_in _ (by omega)
    have w2 : IntKind.i64.wrap (v - s + 1) = n := by rw [hnv]; exact IntWalk.i64_in _ (by omega)
    have r2 := Kp.mk (fun v (hw : Below w.heap.size w v) => C.day_in v (HI.out v hw) hR hv)
    have r3 := Kp.mk (fun v (hw : Below w.heap.size w v) => C.ord_in v (HI.out v hw) hR hn)
    have r5 := Kp.mk (fun w => refCDay_is w hR hv)
    have r6 := Kp.mk (fun v (hw : Below w.heap.size w v) => C.of_in v (HI.out v hw) hR hv)
    have r7 := Kp.mk (fun v (hw : Below w.heap.size w v) => C.from_in v (HI.out v hw) hR hn)
    have r8 := Kp.mk (fun w => refStart_is (y := y) w (by omega) (by omega) hs)
    have q1 := Kp.mk (fun w => gives_ok y m d w)
    clear C hc hR hyr hv hn hs hsi hoi htwo hnv y0 y1 m0 m1 d0 d1
    go_enter Tryz.func3, Tryz.ntmps3
    go_upto_region 1 with fail
    generalize (w.alloc (.cells #[.int .i64 y, .int .i64 m, .int .i64 d] 23)) = w0 at *
    have kHA0 := HA.out.c0
    have kHA1 := HA.out.c1
    have kHA2 := HA.out.c2
    go_wp2_with fail
    refine (r1.out _).mono ?_
    rintro e u1 ⟨rfl, hbl⟩
    clear kHA0 kHA1 kHA2
    have HB := Kp.mk (HB.out.step hbl)
    have HA := Kp.mk (HA.out.step hbl)
    clear hbl
    have kHA0 := HA.out.c0
    have kHA1 := HA.out.c1
    have kHA2 := HA.out.c2
    go_wp2_with fail
    refine (r2.out _ HB.out.below).mono ?_
    rintro e u2 ⟨rfl, hbl⟩
    clear kHA0 kHA1 kHA2
    have HB := Kp.mk (HB.out.step hbl)
    have HA := Kp.mk (HA.out.step hbl)
    clear hbl
    have kHA0 := HA.out.c0
    have kHA1 := HA.out.c1
    have kHA2 := HA.out.c2
    go_wp2_with fail
    refine (r3.out _ HB.out.below).mono ?_
    rintro e u3 ⟨rfl, hbl⟩
    clear kHA0 kHA1 kHA2
    have HB := Kp.mk (HB.out.step hbl)
    have HA := Kp.mk (HA.out.step hbl)
    clear hbl
    have kHA0 := HA.out.c0
    have kHA1 := HA.out.c1
    have kHA2 := HA.out.c2
    go_wp2_with fail
    refine (r4.out _ HB.out.below).mono ?_
    rintro e u4 ⟨rfl, hbl⟩
    clear kHA0 kHA1 kHA2
    have HB := Kp.mk (HB.out.step hbl)
    have HA := Kp.mk (HA.out.step hbl)
    clear hbl
    have kHA0 := HA.out.c0
    have kHA1 := HA.out.c1
    have kHA2 := HA.out.c2
    go_wp2_with fail
    refine (r5.out _).mono ?_
    rintro e u5 ⟨rfl, hbl⟩
    clear kHA0 kHA1 kHA2
    have HB := Kp.mk (HB.out.step hbl)
    have HA := Kp.mk (HA.out.step hbl)
    clear hbl
    have kHA0 := HA.out.c0
    have kHA1 := HA.out.c1
    have kHA2 := HA.out.c2
    go_wp2_with fail
    refine (r6.out _ HB.out.below).mono ?_
    rintro e u6 ⟨rfl, hbl⟩
    clear kHA0 kHA1 kHA2
    have HB := Kp.mk (HB.out.step hbl)
    have HA := Kp.mk (HA.out.step hbl)
    clear hbl
    have kHA0 := HA.out.c0
    have kHA1 := HA.out.c1
    have kHA2 := HA.out.c2
    go_upto_region 10 with fail
    clear kHA0 kHA1 kHA2
    have HC := Kp.mk (cv_new y m d 23 HB.out.below)
    have hbl := (Below.refl u6.heap.size u6).alloc (Nat.le_refl _) (.cells #[.int .i64 y, .int .i64 m, .int .i64 d] 23)
    have HB := Kp.mk (HB.out.step hbl)
    have HA := Kp.mk (HA.out.step hbl)
    clear hbl
    generalize u6.alloc (.cells #[.int .i64 y, .int .i64 m, .int .i64 d] 23) = u7 at *
    generalize u6.heap.size = g1 at *
    have kHA0 := HA.out.c0
    have kHA1 := HA.out.c1
    have kHA2 := HA.out.c2
    have kHC0 := HC.out.c0
    have kHC1 := HC.out.c1
    have kHC2 := HC.out.c2
    go_wp2_with fail
    refine (r7.out _ HB.out.below).mono ?_
    rintro e u8 ⟨rfl, hbl⟩
    clear kHA0 kHA1 kHA2 kHC0 kHC1 kHC2
    have HB := Kp.mk (HB.out.step hbl)
    have HA := Kp.mk (HA.out.step hbl)
    have HC := Kp.mk (HC.out.step hbl)
    clear hbl
    have kHA0 := HA.out.c0
    have kHA1 := HA.out.c1
    have kHA2 := HA.out.c2
    have kHC0 := HC.out.c0
    have kHC1 := HC.out.c1
    have kHC2 := HC.out.c2
    go_upto_region 11 with fail
    clear kHA0 kHA1 kHA2 kHC0 kHC1 kHC2
    have HD := Kp.mk (cv_new y m d 23 HB.out.below)
    have hbl := (Below.refl u8.heap.size u8).alloc (Nat.le_refl _) (.cells #[.int .i64 y, .int .i64 m, .int .i64 d] 23)
    have HB := Kp.mk (HB.out.step hbl)
    have HA := Kp.mk (HA.out.step hbl)
    have HC := Kp.mk (HC.out.step hbl)
    clear hbl
    generalize u8.alloc (.cells #[.int .i64 y, .int .i64 m, .int .i64 d] 23) = u9 at *
    generalize u8.heap.size = g2 at *
    have kHA0 := HA.out.c0
    have kHA1 := HA.out.c1
    have kHA2 := HA.out.c2
    have kHC0 := HC.out.c0
    have kHC1 := HC.out.c1
    have kHC2 := HC.out.c2
    have kHD0 := HD.out.c0
    have kHD1 := HD.out.c1
    have kHD2 := HD.out.c2
    go_wp2_with fail
    refine (r8.out _).mono ?_
    rintro e w' ⟨rfl, rfl⟩
    go_wp2_with fail
    refine (q1.out _).mono ?_
    rintro e u10 ⟨rfl, hbl⟩
    clear kHA0 kHA1 kHA2 kHC0 kHC1 kHC2 kHD0 kHD1 kHD2
    have HB := Kp.mk (HB.out.step hbl)
    have HA := Kp.mk (HA.out.step hbl)
    have HC := Kp.mk (HC.out.step hbl)
    have HD := Kp.mk (HD.out.step hbl)
    clear hbl
    have kHA0 := HA.out.c0
    have kHA1 := HA.out.c1
    have kHA2 := HA.out.c2
    have kHC0 := HC.out.c0
    have kHC1 := HC.out.c1
    have kHC2 := HC.out.c2
    have kHD0 := HD.out.c0
    have kHD1 := HD.out.c1
    have kHD2 := HD.out.c2
    go_wp2_with fail
    refine (q1.out _).mono ?_
    rintro e u11 ⟨rfl, hbl⟩
    clear kHA0 kHA1 kHA2 kHC0 kHC1 kHC2 kHD0 kHD1 kHD2
    have HB := Kp.mk (HB.out.step hbl)
    have HA := Kp.mk (HA.out.step hbl)
    have HC := Kp.mk (HC.out.step hbl)
    have HD := Kp.mk (HD.out.step hbl)
    clear hbl
    have kHA0 := HA.out.c0
    have kHA1 := HA.out.c1
    have kHA2 := HA.out.c2
    have kHC0 := HC.out.c0
    have kHC1 := HC.out.c1
    have kHC2 := HC.out.c2
    have kHD0 := HD.out.c0
    have kHD1 := HD.out.c1
    have kHD2 := HD.out.c2
    go_wp2_with fail
    refine (rl.out _ HB.out.below).mono ?_
    rintro e u12 ⟨rfl, hbl⟩
    clear kHA0 kHA1 kHA2 kHC0 kHC1 kHC2 kHD0 kHD1 kHD2
    have HB := Kp.mk (HB.out.step hbl)
    have HA := Kp.mk (HA.out.step hbl)
    have HC := Kp.mk (HC.out.step hbl)
    have HD := Kp.mk (HD.out.step hbl)
    clear hbl
    have kHA0 := HA.out.c0
    have kHA1 := HA.out.c1
    have kHA2 := HA.out.c2
    have kHC0 := HC.out.c0
    have kHC1 := HC.out.c1
    have kHC2 := HC.out.c2
    have kHD0 := HD.out.c0
    have kHD1 := HD.out.c1
    have kHD2 := HD.out.c2
    go_wp2_with fail
    go_ret
    exact ⟨rfl, HB.out.below⟩
  · have t1 : (c != 0) = true := by rw [bne_iff_ne]; exact h0
    have r2 := Kp.mk (fun v (hw : Below w.heap.size w v) => C.day_out v (HI.out v hw) y0 y1 m0 m1 d0 d1 hc h0)
    have r3 := Kp.mk (fun v (hw : Below w.heap.size w v) => C.ord_out v (HI.out v hw) y0 y1 m0 m1 d0 d1 hc h0)
    clear C hc h0 y0 y1 m0 m1 d0 d1
    go_enter Tryz.func3, Tryz.ntmps3
    go_upto_region 1 with fail
    generalize (w.alloc (.cells #[.int .i64 y, .int .i64 m, .int .i64 d] 23)) = w0 at *
    have kHA0 := HA.out.c0
    have kHA1 := HA.out.c1
    have kHA2 := HA.out.c2
    go_wp2_with fail
    refine (r1.out _).mono ?_
    rintro e u1 ⟨rfl, hbl⟩
    clear kHA0 kHA1 kHA2
    have HB := Kp.mk (HB.out.step hbl)
    have HA := Kp.mk (HA.out.step hbl)
    clear hbl
    have kHA0 := HA.out.c0
    have kHA1 := HA.out.c1
    have kHA2 := HA.out.c2
    go_wp2_with fail
    refine (r2.out _ HB.out.below).mono ?_
    rintro e u2 ⟨rfl, hbl⟩
    clear kHA0 kHA1 kHA2
    have HB := Kp.mk (HB.out.step hbl)
    have HA := Kp.mk (HA.out.step hbl)
    clear hbl
    have kHA0 := HA.out.c0
    have kHA1 := HA.out.c1
    have kHA2 := HA.out.c2
    go_wp2_with fail
    refine (r3.out _ HB.out.below).mono ?_
    rintro e u3 ⟨rfl, hbl⟩
    clear kHA0 kHA1 kHA2
    have HB := Kp.mk (HB.out.step hbl)
    have HA := Kp.mk (HA.out.step hbl)
    clear hbl
    have kHA0 := HA.out.c0
    have kHA1 := HA.out.c1
    have kHA2 := HA.out.c2
    go_wp2_with fail
    refine (r4.out _ HB.out.below).mono ?_
    rintro e u4 ⟨rfl, hbl⟩
    clear kHA0 kHA1 kHA2
    have HB := Kp.mk (HB.out.step hbl)
    have HA := Kp.mk (HA.out.step hbl)
    clear hbl
    have kHA0 := HA.out.c0
    have kHA1 := HA.out.c1
    have kHA2 := HA.out.c2
    go_wp2_with fail
    refine (rl.out _ HB.out.below).mono ?_
    rintro e u5 ⟨rfl, hbl⟩
    clear kHA0 kHA1 kHA2
    have HB := Kp.mk (HB.out.step hbl)
    have HA := Kp.mk (HA.out.step hbl)
    clear hbl
    have kHA0 := HA.out.c0
    have kHA1 := HA.out.c1
    have kHA2 := HA.out.c2
    go_wp2_with fail
    go_ret
    exact ⟨rfl, HB.out.below⟩
theorem three_new (w : World) (a b c x y z u v t : Int) (T : TypeId) : Cv w w.heap.size a b c (((w.alloc (.cells #[.int .i64 a, .int .i64 b, .int .i64 c] T)).alloc (.cells #[.int .i64 x, .int .i64 y, .int .i64 z] T)).alloc (.cells #[.int .i64 u, .int .i64 v, .int .i64 t] T)) ∧
    Cv w (w.heap.size + 1) x y z (((w.alloc (.cells #[.int .i64 a, .int .i64 b, .int .i64 c] T)).alloc (.cells #[.int .i64 x, .int .i64 y, .int .i64 z] T)).alloc (.cells #[.int .i64 u, .int .i64 v, .int .i64 t] T)) ∧
    Cv w (w.heap.size + 1 + 1) u v t (((w.alloc (.cells #[.int .i64 a, .int .i64 b, .int .i64 c] T)).alloc (.cells #[.int .i64 x, .int .i64 y, .int .i64 z] T)).alloc (.cells #[.int .i64 u, .int .i64 v, .int .i64 t] T)) := by
  have h1 := cv_new a b c T (Below.refl w.heap.size w)
  have h2 := cv_new x y z T h1.below
  have h3 := cv_new u v t T h2.below
  rw [World.size_alloc] at h2
  rw [World.size_alloc, World.size_alloc] at h3
  have s1 := (Below.refl (w.alloc (.cells #[.int .i64 a, .int .i64 b, .int .i64 c] T)).heap.size _).alloc (Nat.le_refl _) (.cells #[.int .i64 x, .int .i64 y, .int .i64 z] T)
  have s2 := (Below.refl ((w.alloc (.cells #[.int .i64 a, .int .i64 b, .int .i64 c] T)).alloc (.cells #[.int .i64 x, .int .i64 y, .int .i64 z] T)).heap.size _).alloc (Nat.le_refl _) (.cells #[.int .i64 u, .int .i64 v, .int .i64 t] T)
  exact ⟨(h1.step s1).step s2, h2.step s2, h3⟩
set_option maxRecDepth 100000 in
set_option maxHeartbeats 4000000 in
theorem lawOrder_any {I : World → Prop} (C : CivFns I) (a b c x y z u v t : Int) (w : World) (hI : I w) (a0 : -9223372036854775808 ≤ a) (a1 : a ≤ 9223372036854775807) (b0 : -9223372036854775808 ≤ b) (b1 : b ≤ 9223372036854775807) (c0 : -9223372036854775808 ≤ c) (c1 : c ≤ 9223372036854775807) (x0 : -9223372036854775808 ≤ x) (x1 : x ≤ 9223372036854775807) (y0 : -9223372036854775808 ≤ y) (y1 : y ≤ 9223372036854775807) (z0 : -9223372036854775808 ≤ z) (z1 : z ≤ 9223372036854775807) (u0 : -9223372036854775808 ≤ u) (u1 : u ≤ 9223372036854775807) (v0 : -9223372036854775808 ≤ v) (v1 : v ≤ 9223372036854775807) (t0 : -9223372036854775808 ≤ t) (t1 : t ≤ 9223372036854775807) :
    Calls Tryz.prog 5 #[.agg #[.int .i64 a, .int .i64 b, .int .i64 c], .agg #[.int .i64 x, .int .i64 y, .int .i64 z], .agg #[.int .i64 u, .int .i64 v, .int .i64 t]] w fun e w' => e = .returned (.bool true) ∧ Below w.heap.size w w' := by
  have H3 := three_new w a b c x y z u v t 23
  have HA := Kp.mk H3.1
  have HC := Kp.mk H3.2.1
  have HD := Kp.mk H3.2.2
  clear H3
  have HB := Kp.mk HA.out.bl
  have HI := Kp.mk (fun (v : World) (h : Below w.heap.size w v) => C.keep hI h)
  clear hI
  have rl := Kp.mk (fun v (hw : Below w.heap.size w v) => C.lives v (HI.out v hw))
  obtain ⟨n, hn⟩ : ∃ n, cmpC a b c x y z = n := ⟨_, rfl⟩
  have hsw : cmpC x y z a b c = -n := by rw [cmpC_swap, hn]
  have hone := cmpC_one a b c x y z
  have hz := cmpC_zero a b c x y z
  rw [hn] at hone hz
  have w1 : IntKind.i64.wrap (-n) = -n := IntWalk.i64_in _ (by omega)
  have r1 := Kp.mk (fun w' (hw : Below w.heap.size w w') => C.cmp w' (HI.out w' hw) a0 a1 b0 b1 c0 c1 x0 x1 y0 y1 z0 z1 hn)
  have r2 := Kp.mk (fun w => refCCmp_is w hn)
  have r3 := Kp.mk (fun w' (hw : Below w.heap.size w w') => C.cmp w' (HI.out w' hw) x0 x1 y0 y1 z0 z1 a0 a1 b0 b1 c0 c1 hsw)
  obtain ⟨p, hp⟩ : ∃ p, cmpC x y z u v t = p := ⟨_, rfl⟩
  obtain ⟨q, hq⟩ : ∃ q, cmpC a b c u v t = q := ⟨_, rfl⟩
  have htr := cmpC_trans a b c x y z u v t
  rw [hn, hp, hq] at htr
  have r4 := Kp.mk (fun w' (hw : Below w.heap.size w w') => C.cmp w' (HI.out w' hw) x0 x1 y0 y1 z0 z1 u0 u1 v0 v1 t0 t1 hp)
  have r5 := Kp.mk (fun w' (hw : Below w.heap.size w w') => C.cmp w' (HI.out w' hw) a0 a1 b0 b1 c0 c1 u0 u1 v0 v1 t0 t1 hq)
  clear C hn hsw hp hq a0 a1 b0 b1 c0 c1 x0 x1 y0 y1 z0 z1 u0 u1 v0 v1 t0 t1
  by_cases g0 : n = 0
  · obtain ⟨rfl, rfl, rfl⟩ := hz.1 g0
    subst g0
    clear hz hone
    by_cases gp : 0 < p
    · clear htr
      go_enter Tryz.func5, Tryz.ntmps5
      go_upto_region 1 with fail
      generalize (((w.alloc (.cells #[.int .i64 a, .int .i64 b, .int .i64 c] 23)).alloc (.cells #[.int .i64 a, .int .i64 b, .int .i64 c] 23)).alloc (.cells #[.int .i64 u, .int .i64 v, .int .i64 t] 23)) = w0 at *
      have kHA0 := HA.out.c0
      have kHA1 := HA.out.c1
      have kHA2 := HA.out.c2
      have kHC0 := HC.out.c0
      have kHC1 := HC.out.c1
      have kHC2 := HC.out.c2
      have kHD0 := HD.out.c0
      have kHD1 := HD.out.c1
      have kHD2 := HD.out.c2
      go_wp2_with fail
      refine (r1.out _ HB.out.below).mono ?_
      rintro e u1 ⟨rfl, hbl⟩
      clear kHA0 kHA1 kHA2 kHC0 kHC1 kHC2 kHD0 kHD1 kHD2
      have HB := Kp.mk (HB.out.step hbl)
      have HA := Kp.mk (HA.out.step hbl)
      have HC := Kp.mk (HC.out.step hbl)
      have HD := Kp.mk (HD.out.step hbl)
      clear hbl
      have kHA0 := HA.out.c0
      have kHA1 := HA.out.c1
      have kHA2 := HA.out.c2
      have kHC0 := HC.out.c0
      have kHC1 := HC.out.c1
      have kHC2 := HC.out.c2
      have kHD0 := HD.out.c0
      have kHD1 := HD.out.c1
      have kHD2 := HD.out.c2
      go_wp2_with fail
      refine (r2.out _).mono ?_
      rintro e u2 ⟨rfl, hbl⟩
      clear kHA0 kHA1 kHA2 kHC0 kHC1 kHC2 kHD0 kHD1 kHD2
      have HB := Kp.mk (HB.out.step hbl)
      have HA := Kp.mk (HA.out.step hbl)
      have HC := Kp.mk (HC.out.step hbl)
      have HD := Kp.mk (HD.out.step hbl)
      clear hbl
      have kHA0 := HA.out.c0
      have kHA1 := HA.out.c1
      have kHA2 := HA.out.c2
      have kHC0 := HC.out.c0
      have kHC1 := HC.out.c1
      have kHC2 := HC.out.c2
      have kHD0 := HD.out.c0
      have kHD1 := HD.out.c1
      have kHD2 := HD.out.c2
      go_wp2_with fail
      refine (r3.out _ HB.out.below).mono ?_
      rintro e u3 ⟨rfl, hbl⟩
      clear kHA0 kHA1 kHA2 kHC0 kHC1 kHC2 kHD0 kHD1 kHD2
      have HB := Kp.mk (HB.out.step hbl)
      have HA := Kp.mk (HA.out.step hbl)
      have HC := Kp.mk (HC.out.step hbl)
      have HD := Kp.mk (HD.out.step hbl)
      clear hbl
      have kHA0 := HA.out.c0
      have kHA1 := HA.out.c1
      have kHA2 := HA.out.c2
      have kHC0 := HC.out.c0
      have kHC1 := HC.out.c1
      have kHC2 := HC.out.c2
      have kHD0 := HD.out.c0
      have kHD1 := HD.out.c1
      have kHD2 := HD.out.c2
      go_wp2_with fail
      refine (r4.out _ HB.out.below).mono ?_
      rintro e u4 ⟨rfl, hbl⟩
      clear kHA0 kHA1 kHA2 kHC0 kHC1 kHC2 kHD0 kHD1 kHD2
      have HB := Kp.mk (HB.out.step hbl)
      have HA := Kp.mk (HA.out.step hbl)
      have HC := Kp.mk (HC.out.step hbl)
      have HD := Kp.mk (HD.out.step hbl)
      clear hbl
      have kHA0 := HA.out.c0
      have kHA1 := HA.out.c1
      have kHA2 := HA.out.c2
      have kHC0 := HC.out.c0
      have kHC1 := HC.out.c1
      have kHC2 := HC.out.c2
      have kHD0 := HD.out.c0
      have kHD1 := HD.out.c1
      have kHD2 := HD.out.c2
      go_wp2_with fail
      refine (rl.out _ HB.out.below).mono ?_
      rintro e u5 ⟨rfl, hbl⟩
      clear kHA0 kHA1 kHA2 kHC0 kHC1 kHC2 kHD0 kHD1 kHD2
      have HB := Kp.mk (HB.out.step hbl)
      have HA := Kp.mk (HA.out.step hbl)
      have HC := Kp.mk (HC.out.step hbl)
      have HD := Kp.mk (HD.out.step hbl)
      clear hbl
      have kHA0 := HA.out.c0
      have kHA1 := HA.out.c1
      have kHA2 := HA.out.c2
      have kHC0 := HC.out.c0
      have kHC1 := HC.out.c1
      have kHC2 := HC.out.c2
      have kHD0 := HD.out.c0
      have kHD1 := HD.out.c1
      have kHD2 := HD.out.c2
      go_wp2_with fail
      go_ret
      exact ⟨rfl, HB.out.below⟩
    · have hq0 : q ≤ 0 := htr (by omega) (by omega)
      clear htr
      go_enter Tryz.func5, Tryz.ntmps5
      go_upto_region 1 with fail
      generalize (((w.alloc (.cells #[.int .i64 a, .int .i64 b, .int .i64 c] 23)).alloc (.cells #[.int .i64 a, .int .i64 b, .int .i64 c] 23)).alloc (.cells #[.int .i64 u, .int .i64 v, .int .i64 t] 23)) = w0 at *
      have kHA0 := HA.out.c0
      have kHA1 := HA.out.c1
      have kHA2 := HA.out.c2
      have kHC0 := HC.out.c0
      have kHC1 := HC.out.c1
      have kHC2 := HC.out.c2
      have kHD0 := HD.out.c0
      have kHD1 := HD.out.c1
      have kHD2 := HD.out.c2
      go_wp2_with fail
      refine (r1.out _ HB.out.below).mono ?_
      rintro e u1 ⟨rfl, hbl⟩
      clear kHA0 kHA1 kHA2 kHC0 kHC1 kHC2 kHD0 kHD1 kHD2
      have HB := Kp.mk (HB.out.step hbl)
      have HA := Kp.mk (HA.out.step hbl)
      have HC := Kp.mk (HC.out.step hbl)
      have HD := Kp.mk (HD.out.step hbl)
      clear hbl
      have kHA0 := HA.out.c0
      have kHA1 := HA.out.c1
      have kHA2 := HA.out.c2
      have kHC0 := HC.out.c0
      have kHC1 := HC.out.c1
      have kHC2 := HC.out.c2
      have kHD0 := HD.out.c0
      have kHD1 := HD.out.c1
      have kHD2 := HD.out.c2
      go_wp2_with fail
      refine (r2.out _).mono ?_
      rintro e u2 ⟨rfl, hbl⟩
      clear kHA0 kHA1 kHA2 kHC0 kHC1 kHC2 kHD0 kHD1 kHD2
      have HB := Kp.mk (HB.out.step hbl)
      have HA := Kp.mk (HA.out.step hbl)
      have HC := Kp.mk (HC.out.step hbl)
      have HD := Kp.mk (HD.out.step hbl)
      clear hbl
      have kHA0 := HA.out.c0
      have kHA1 := HA.out.c1
      have kHA2 := HA.out.c2
      have kHC0 := HC.out.c0
      have kHC1 := HC.out.c1
      have kHC2 := HC.out.c2
      have kHD0 := HD.out.c0
      have kHD1 := HD.out.c1
      have kHD2 := HD.out.c2
      go_wp2_with fail
      refine (r3.out _ HB.out.below).mono ?_
      rintro e u3 ⟨rfl, hbl⟩
      clear kHA0 kHA1 kHA2 kHC0 kHC1 kHC2 kHD0 kHD1 kHD2
      have HB := Kp.mk (HB.out.step hbl)
      have HA := Kp.mk (HA.out.step hbl)
      have HC := Kp.mk (HC.out.step hbl)
      have HD := Kp.mk (HD.out.step hbl)
      clear hbl
      have kHA0 := HA.out.c0
      have kHA1 := HA.out.c1
      have kHA2 := HA.out.c2
      have kHC0 := HC.out.c0
      have kHC1 := HC.out.c1
      have kHC2 := HC.out.c2
      have kHD0 := HD.out.c0
      have kHD1 := HD.out.c1
      have kHD2 := HD.out.c2
      go_wp2_with fail
      refine (r4.out _ HB.out.below).mono ?_
      rintro e u4 ⟨rfl, hbl⟩
      clear kHA0 kHA1 kHA2 kHC0 kHC1 kHC2 kHD0 kHD1 kHD2
      have HB := Kp.mk (HB.out.step hbl)
      have HA := Kp.mk (HA.out.step hbl)
      have HC := Kp.mk (HC.out.step hbl)
      have HD := Kp.mk (HD.out.step hbl)
      clear hbl
      have kHA0 := HA.out.c0
      have kHA1 := HA.out.c1
      have kHA2 := HA.out.c2
      have kHC0 := HC.out.c0
      have kHC1 := HC.out.c1
      have kHC2 := HC.out.c2
      have kHD0 := HD.out.c0
      have kHD1 := HD.out.c1
      have kHD2 := HD.out.c2
      go_wp2_with fail
      refine (r5.out _ HB.out.below).mono ?_
      rintro e u5 ⟨rfl, hbl⟩
      clear kHA0 kHA1 kHA2 kHC0 kHC1 kHC2 kHD0 kHD1 kHD2
      have HB := Kp.mk (HB.out.step hbl)
      have HA := Kp.mk (HA.out.step hbl)
      have HC := Kp.mk (HC.out.step hbl)
      have HD := Kp.mk (HD.out.step hbl)
      clear hbl
      have kHA0 := HA.out.c0
      have kHA1 := HA.out.c1
      have kHA2 := HA.out.c2
      have kHC0 := HC.out.c0
      have kHC1 := HC.out.c1
      have kHC2 := HC.out.c2
      have kHD0 := HD.out.c0
      have kHD1 := HD.out.c1
      have kHD2 := HD.out.c2
      go_wp2_with fail
      refine (rl.out _ HB.out.below).mono ?_
      rintro e u6 ⟨rfl, hbl⟩
      clear kHA0 kHA1 kHA2 kHC0 kHC1 kHC2 kHD0 kHD1 kHD2
      have HB := Kp.mk (HB.out.step hbl)
      have HA := Kp.mk (HA.out.step hbl)
      have HC := Kp.mk (HC.out.step hbl)
      have HD := Kp.mk (HD.out.step hbl)
      clear hbl
      have kHA0 := HA.out.c0
      have kHA1 := HA.out.c1
      have kHA2 := HA.out.c2
      have kHC0 := HC.out.c0
      have kHC1 := HC.out.c1
      have kHC2 := HC.out.c2
      have kHD0 := HD.out.c0
      have kHD1 := HD.out.c1
      have kHD2 := HD.out.c2
      go_wp2_with fail
      go_ret
      exact ⟨rfl, HB.out.below⟩
  · have hne : (¬ a = x) ∨ (a = x ∧ ¬ b = y) ∨ (a = x ∧ b = y ∧ ¬ c = z) := by
      have h : ¬ (a = x ∧ b = y ∧ c = z) := fun h => g0 (hz.2 h)
      omega
    have t0 : (n == 0) = false := by rw [beq_eq_false_iff_ne]; exact g0
    clear hz
    rcases hne with e1 | ⟨rfl, e1⟩ | ⟨rfl, rfl, e1⟩
    · by_cases gn : 0 < n
      · clear htr hone
        go_enter Tryz.func5, Tryz.ntmps5
        go_upto_region 1 with fail
        generalize (((w.alloc (.cells #[.int .i64 a, .int .i64 b, .int .i64 c] 23)).alloc (.cells #[.int .i64 x, .int .i64 y, .int .i64 z] 23)).alloc (.cells #[.int .i64 u, .int .i64 v, .int .i64 t] 23)) = w0 at *
        have kHA0 := HA.out.c0
        have kHA1 := HA.out.c1
        have kHA2 := HA.out.c2
        have kHC0 := HC.out.c0
        have kHC1 := HC.out.c1
        have kHC2 := HC.out.c2
        have kHD0 := HD.out.c0
        have kHD1 := HD.out.c1
        have kHD2 := HD.out.c2
        go_wp2_with fail
        refine (r1.out _ HB.out.below).mono ?_
        rintro e u1 ⟨rfl, hbl⟩
        clear kHA0 kHA1 kHA2 kHC0 kHC1 kHC2 kHD0 kHD1 kHD2
        have HB := Kp.mk (HB.out.step hbl)
        have HA := Kp.mk (HA.out.step hbl)
        have HC := Kp.mk (HC.out.step hbl)
        have HD := Kp.mk (HD.out.step hbl)
        clear hbl
        have kHA0 := HA.out.c0
        have kHA1 := HA.out.c1
        have kHA2 := HA.out.c2
        have kHC0 := HC.out.c0
        have kHC1 := HC.out.c1
        have kHC2 := HC.out.c2
        have kHD0 := HD.out.c0
        have kHD1 := HD.out.c1
        have kHD2 := HD.out.c2
        go_wp2_with fail
        refine (r2.out _).mono ?_
        rintro e u2 ⟨rfl, hbl⟩
        clear kHA0 kHA1 kHA2 kHC0 kHC1 kHC2 kHD0 kHD1 kHD2
        have HB := Kp.mk (HB.out.step hbl)
        have HA := Kp.mk (HA.out.step hbl)
        have HC := Kp.mk (HC.out.step hbl)
        have HD := Kp.mk (HD.out.step hbl)
        clear hbl
        have kHA0 := HA.out.c0
        have kHA1 := HA.out.c1
        have kHA2 := HA.out.c2
        have kHC0 := HC.out.c0
        have kHC1 := HC.out.c1
        have kHC2 := HC.out.c2
        have kHD0 := HD.out.c0
        have kHD1 := HD.out.c1
        have kHD2 := HD.out.c2
        go_wp2_with fail
        refine (r3.out _ HB.out.below).mono ?_
        rintro e u3 ⟨rfl, hbl⟩
        clear kHA0 kHA1 kHA2 kHC0 kHC1 kHC2 kHD0 kHD1 kHD2
        have HB := Kp.mk (HB.out.step hbl)
        have HA := Kp.mk (HA.out.step hbl)
        have HC := Kp.mk (HC.out.step hbl)
        have HD := Kp.mk (HD.out.step hbl)
        clear hbl
        have kHA0 := HA.out.c0
        have kHA1 := HA.out.c1
        have kHA2 := HA.out.c2
        have kHC0 := HC.out.c0
        have kHC1 := HC.out.c1
        have kHC2 := HC.out.c2
        have kHD0 := HD.out.c0
        have kHD1 := HD.out.c1
        have kHD2 := HD.out.c2
        go_wp2_with fail
        refine (rl.out _ HB.out.below).mono ?_
        rintro e u4 ⟨rfl, hbl⟩
        clear kHA0 kHA1 kHA2 kHC0 kHC1 kHC2 kHD0 kHD1 kHD2
        have HB := Kp.mk (HB.out.step hbl)
        have HA := Kp.mk (HA.out.step hbl)
        have HC := Kp.mk (HC.out.step hbl)
        have HD := Kp.mk (HD.out.step hbl)
        clear hbl
        have kHA0 := HA.out.c0
        have kHA1 := HA.out.c1
        have kHA2 := HA.out.c2
        have kHC0 := HC.out.c0
        have kHC1 := HC.out.c1
        have kHC2 := HC.out.c2
        have kHD0 := HD.out.c0
        have kHD1 := HD.out.c1
        have kHD2 := HD.out.c2
        go_wp2_with fail
        go_ret
        exact ⟨rfl, HB.out.below⟩
      · by_cases gp : 0 < p
        · clear htr hone
          go_enter Tryz.func5, Tryz.ntmps5
          go_upto_region 1 with fail
          generalize (((w.alloc (.cells #[.int .i64 a, .int .i64 b, .int .i64 c] 23)).alloc (.cells #[.int .i64 x, .int .i64 y, .int .i64 z] 23)).alloc (.cells #[.int .i64 u, .int .i64 v, .int .i64 t] 23)) = w0 at *
          have kHA0 := HA.out.c0
          have kHA1 := HA.out.c1
          have kHA2 := HA.out.c2
          have kHC0 := HC.out.c0
          have kHC1 := HC.out.c1
          have kHC2 := HC.out.c2
          have kHD0 := HD.out.c0
          have kHD1 := HD.out.c1
          have kHD2 := HD.out.c2
          go_wp2_with fail
          refine (r1.out _ HB.out.below).mono ?_
          rintro e u1 ⟨rfl, hbl⟩
          clear kHA0 kHA1 kHA2 kHC0 kHC1 kHC2 kHD0 kHD1 kHD2
          have HB := Kp.mk (HB.out.step hbl)
          have HA := Kp.mk (HA.out.step hbl)
          have HC := Kp.mk (HC.out.step hbl)
          have HD := Kp.mk (HD.out.step hbl)
          clear hbl
          have kHA0 := HA.out.c0
          have kHA1 := HA.out.c1
          have kHA2 := HA.out.c2
          have kHC0 := HC.out.c0
          have kHC1 := HC.out.c1
          have kHC2 := HC.out.c2
          have kHD0 := HD.out.c0
          have kHD1 := HD.out.c1
          have kHD2 := HD.out.c2
          go_wp2_with fail
          refine (r2.out _).mono ?_
          rintro e u2 ⟨rfl, hbl⟩
          clear kHA0 kHA1 kHA2 kHC0 kHC1 kHC2 kHD0 kHD1 kHD2
          have HB := Kp.mk (HB.out.step hbl)
          have HA := Kp.mk (HA.out.step hbl)
          have HC := Kp.mk (HC.out.step hbl)
          have HD := Kp.mk (HD.out.step hbl)
          clear hbl
          have kHA0 := HA.out.c0
          have kHA1 := HA.out.c1
          have kHA2 := HA.out.c2
          have kHC0 := HC.out.c0
          have kHC1 := HC.out.c1
          have kHC2 := HC.out.c2
          have kHD0 := HD.out.c0
          have kHD1 := HD.out.c1
          have kHD2 := HD.out.c2
          go_wp2_with fail
          refine (r3.out _ HB.out.below).mono ?_
          rintro e u3 ⟨rfl, hbl⟩
          clear kHA0 kHA1 kHA2 kHC0 kHC1 kHC2 kHD0 kHD1 kHD2
          have HB := Kp.mk (HB.out.step hbl)
          have HA := Kp.mk (HA.out.step hbl)
          have HC := Kp.mk (HC.out.step hbl)
          have HD := Kp.mk (HD.out.step hbl)
          clear hbl
          have kHA0 := HA.out.c0
          have kHA1 := HA.out.c1
          have kHA2 := HA.out.c2
          have kHC0 := HC.out.c0
          have kHC1 := HC.out.c1
          have kHC2 := HC.out.c2
          have kHD0 := HD.out.c0
          have kHD1 := HD.out.c1
          have kHD2 := HD.out.c2
          go_wp2_with fail
          refine (r4.out _ HB.out.below).mono ?_
          rintro e u4 ⟨rfl, hbl⟩
          clear kHA0 kHA1 kHA2 kHC0 kHC1 kHC2 kHD0 kHD1 kHD2
          have HB := Kp.mk (HB.out.step hbl)
          have HA := Kp.mk (HA.out.step hbl)
          have HC := Kp.mk (HC.out.step hbl)
          have HD := Kp.mk (HD.out.step hbl)
          clear hbl
          have kHA0 := HA.out.c0
          have kHA1 := HA.out.c1
          have kHA2 := HA.out.c2
          have kHC0 := HC.out.c0
          have kHC1 := HC.out.c1
          have kHC2 := HC.out.c2
          have kHD0 := HD.out.c0
          have kHD1 := HD.out.c1
          have kHD2 := HD.out.c2
          go_wp2_with fail
          refine (rl.out _ HB.out.below).mono ?_
          rintro e u5 ⟨rfl, hbl⟩
          clear kHA0 kHA1 kHA2 kHC0 kHC1 kHC2 kHD0 kHD1 kHD2
          have HB := Kp.mk (HB.out.step hbl)
          have HA := Kp.mk (HA.out.step hbl)
          have HC := Kp.mk (HC.out.step hbl)
          have HD := Kp.mk (HD.out.step hbl)
          clear hbl
          have kHA0 := HA.out.c0
          have kHA1 := HA.out.c1
          have kHA2 := HA.out.c2
          have kHC0 := HC.out.c0
          have kHC1 := HC.out.c1
          have kHC2 := HC.out.c2
          have kHD0 := HD.out.c0
          have kHD1 := HD.out.c1
          have kHD2 := HD.out.c2
          go_wp2_with fail
          go_ret
          exact ⟨rfl, HB.out.below⟩
        · have hq0 : q ≤ 0 := htr (by omega) (by omega)
          clear htr hone
          go_enter Tryz.func5, Tryz.ntmps5
          go_upto_region 1 with fail
          generalize (((w.alloc (.cells #[.int .i64 a, .int .i64 b, .int .i64 c] 23)).alloc (.cells #[.int .i64 x, .int .i64 y, .int .i64 z] 23)).alloc (.cells #[.int .i64 u, .int .i64 v, .int .i64 t] 23)) = w0 at *
          have kHA0 := HA.out.c0
          have kHA1 := HA.out.c1
          have kHA2 := HA.out.c2
          have kHC0 := HC.out.c0
          have kHC1 := HC.out.c1
          have kHC2 := HC.out.c2
          have kHD0 := HD.out.c0
          have kHD1 := HD.out.c1
          have kHD2 := HD.out.c2
          go_wp2_with fail
          refine (r1.out _ HB.out.below).mono ?_
          rintro e u1 ⟨rfl, hbl⟩
          clear kHA0 kHA1 kHA2 kHC0 kHC1 kHC2 kHD0 kHD1 kHD2
          have HB := Kp.mk (HB.out.step hbl)
          have HA := Kp.mk (HA.out.step hbl)
          have HC := Kp.mk (HC.out.step hbl)
          have HD := Kp.mk (HD.out.step hbl)
          clear hbl
          have kHA0 := HA.out.c0
          have kHA1 := HA.out.c1
          have kHA2 := HA.out.c2
          have kHC0 := HC.out.c0
          have kHC1 := HC.out.c1
          have kHC2 := HC.out.c2
          have kHD0 := HD.out.c0
          have kHD1 := HD.out.c1
          have kHD2 := HD.out.c2
          go_wp2_with fail
          refine (r2.out _).mono ?_
          rintro e u2 ⟨rfl, hbl⟩
          clear kHA0 kHA1 kHA2 kHC0 kHC1 kHC2 kHD0 kHD1 kHD2
          have HB := Kp.mk (HB.out.step hbl)
          have HA := Kp.mk (HA.out.step hbl)
          have HC := Kp.mk (HC.out.step hbl)
          have HD := Kp.mk (HD.out.step hbl)
          clear hbl
          have kHA0 := HA.out.c0
          have kHA1 := HA.out.c1
          have kHA2 := HA.out.c2
          have kHC0 := HC.out.c0
          have kHC1 := HC.out.c1
          have kHC2 := HC.out.c2
          have kHD0 := HD.out.c0
          have kHD1 := HD.out.c1
          have kHD2 := HD.out.c2
          go_wp2_with fail
          refine (r3.out _ HB.out.below).mono ?_
          rintro e u3 ⟨rfl, hbl⟩
          clear kHA0 kHA1 kHA2 kHC0 kHC1 kHC2 kHD0 kHD1 kHD2
          have HB := Kp.mk (HB.out.step hbl)
          have HA := Kp.mk (HA.out.step hbl)
          have HC := Kp.mk (HC.out.step hbl)
          have HD := Kp.mk (HD.out.step hbl)
          clear hbl
          have kHA0 := HA.out.c0
          have kHA1 := HA.out.c1
          have kHA2 := HA.out.c2
          have kHC0 := HC.out.c0
          have kHC1 := HC.out.c1
          have kHC2 := HC.out.c2
          have kHD0 := HD.out.c0
          have kHD1 := HD.out.c1
          have kHD2 := HD.out.c2
          go_wp2_with fail
          refine (r4.out _ HB.out.below).mono ?_
          rintro e u4 ⟨rfl, hbl⟩
          clear kHA0 kHA1 kHA2 kHC0 kHC1 kHC2 kHD0 kHD1 kHD2
          have HB := Kp.mk (HB.out.step hbl)
          have HA := Kp.mk (HA.out.step hbl)
          have HC := Kp.mk (HC.out.step hbl)
          have HD := Kp.mk (HD.out.step hbl)
          clear hbl
          have kHA0 := HA.out.c0
          have kHA1 := HA.out.c1
          have kHA2 := HA.out.c2
          have kHC0 := HC.out.c0
          have kHC1 := HC.out.c1
          have kHC2 := HC.out.c2
          have kHD0 := HD.out.c0
          have kHD1 := HD.out.c1
          have kHD2 := HD.out.c2
          go_wp2_with fail
          refine (r5.out _ HB.out.below).mono ?_
          rintro e u5 ⟨rfl, hbl⟩
          clear kHA0 kHA1 kHA2 kHC0 kHC1 kHC2 kHD0 kHD1 kHD2
          have HB := Kp.mk (HB.out.step hbl)
          have HA := Kp.mk (HA.out.step hbl)
          have HC := Kp.mk (HC.out.step hbl)
          have HD := Kp.mk (HD.out.step hbl)
          clear hbl
          have kHA0 := HA.out.c0
          have kHA1 := HA.out.c1
          have kHA2 := HA.out.c2
          have kHC0 := HC.out.c0
          have kHC1 := HC.out.c1
          have kHC2 := HC.out.c2
          have kHD0 := HD.out.c0
          have kHD1 := HD.out.c1
          have kHD2 := HD.out.c2
          go_wp2_with fail
          refine (rl.out _ HB.out.below).mono ?_
          rintro e u6 ⟨rfl, hbl⟩
          clear kHA0 kHA1 kHA2 kHC0 kHC1 kHC2 kHD0 kHD1 kHD2
          have HB := Kp.mk (HB.out.step hbl)
          have HA := Kp.mk (HA.out.step hbl)
          have HC := Kp.mk (HC.out.step hbl)
          have HD := Kp.mk (HD.out.step hbl)
          clear hbl
          have kHA0 := HA.out.c0
          have kHA1 := HA.out.c1
          have kHA2 := HA.out.c2
          have kHC0 := HC.out.c0
          have kHC1 := HC.out.c1
          have kHC2 := HC.out.c2
          have kHD0 := HD.out.c0
          have kHD1 := HD.out.c1
          have kHD2 := HD.out.c2
          go_wp2_with fail
          go_ret
          exact ⟨rfl, HB.out.below⟩
    · by_cases gn : 0 < n
      · clear htr hone
        go_enter Tryz.func5, Tryz.ntmps5
        go_upto_region 1 with fail
        generalize (((w.alloc (.cells #[.int .i64 a, .int .i64 b, .int .i64 c] 23)).alloc (.cells #[.int .i64 a, .int .i64 y, .int .i64 z] 23)).alloc (.cells #[.int .i64 u, .int .i64 v, .int .i64 t] 23)) = w0 at *
        have kHA0 := HA.out.c0
        have kHA1 := HA.out.c1
        have kHA2 := HA.out.c2
        have kHC0 := HC.out.c0
        have kHC1 := HC.out.c1
        have kHC2 := HC.out.c2
        have kHD0 := HD.out.c0
        have kHD1 := HD.out.c1
        have kHD2 := HD.out.c2
        go_wp2_with fail
        refine (r1.out _ HB.out.below).mono ?_
        rintro e u1 ⟨rfl, hbl⟩
        clear kHA0 kHA1 kHA2 kHC0 kHC1 kHC2 kHD0 kHD1 kHD2
        have HB := Kp.mk (HB.out.step hbl)
        have HA := Kp.mk (HA.out.step hbl)
        have HC := Kp.mk (HC.out.step hbl)
        have HD := Kp.mk (HD.out.step hbl)
        clear hbl
        have kHA0 := HA.out.c0
        have kHA1 := HA.out.c1
        have kHA2 := HA.out.c2
        have kHC0 := HC.out.c0
        have kHC1 := HC.out.c1
        have kHC2 := HC.out.c2
        have kHD0 := HD.out.c0
        have kHD1 := HD.out.c1
        have kHD2 := HD.out.c2
        go_wp2_with fail
        refine (r2.out _).mono ?_
        rintro e u2 ⟨rfl, hbl⟩
        clear kHA0 kHA1 kHA2 kHC0 kHC1 kHC2 kHD0 kHD1 kHD2
        have HB := Kp.mk (HB.out.step hbl)
        have HA := Kp.mk (HA.out.step hbl)
        have HC := Kp.mk (HC.out.step hbl)
        have HD := Kp.mk (HD.out.step hbl)
        clear hbl
        have kHA0 := HA.out.c0
        have kHA1 := HA.out.c1
        have kHA2 := HA.out.c2
        have kHC0 := HC.out.c0
        have kHC1 := HC.out.c1
        have kHC2 := HC.out.c2
        have kHD0 := HD.out.c0
        have kHD1 := HD.out.c1
        have kHD2 := HD.out.c2
        go_wp2_with fail
        refine (r3.out _ HB.out.below).mono ?_
        rintro e u3 ⟨rfl, hbl⟩
        clear kHA0 kHA1 kHA2 kHC0 kHC1 kHC2 kHD0 kHD1 kHD2
        have HB := Kp.mk (HB.out.step hbl)
        have HA := Kp.mk (HA.out.step hbl)
        have HC := Kp.mk (HC.out.step hbl)
        have HD := Kp.mk (HD.out.step hbl)
        clear hbl
        have kHA0 := HA.out.c0
        have kHA1 := HA.out.c1
        have kHA2 := HA.out.c2
        have kHC0 := HC.out.c0
        have kHC1 := HC.out.c1
        have kHC2 := HC.out.c2
        have kHD0 := HD.out.c0
        have kHD1 := HD.out.c1
        have kHD2 := HD.out.c2
        go_wp2_with fail
        refine (rl.out _ HB.out.below).mono ?_
        rintro e u4 ⟨rfl, hbl⟩
        clear kHA0 kHA1 kHA2 kHC0 kHC1 kHC2 kHD0 kHD1 kHD2
        have HB := Kp.mk (HB.out.step hbl)
        have HA := Kp.mk (HA.out.step hbl)
        have HC := Kp.mk (HC.out.step hbl)
        have HD := Kp.mk (HD.out.step hbl)
        clear hbl
        have kHA0 := HA.out.c0
        have kHA1 := HA.out.c1
        have kHA2 := HA.out.c2
        have kHC0 := HC.out.c0
        have kHC1 := HC.out.c1
        have kHC2 := HC.out.c2
        have kHD0 := HD.out.c0
        have kHD1 := HD.out.c1
        have kHD2 := HD.out.c2
        go_wp2_with fail
        go_ret
        exact ⟨rfl, HB.out.below⟩
      · by_cases gp : 0 < p
        · clear htr hone
          go_enter Tryz.func5, Tryz.ntmps5
          go_upto_region 1 with fail
          generalize (((w.alloc (.cells #[.int .i64 a, .int .i64 b, .int .i64 c] 23)).alloc (.cells #[.int .i64 a, .int .i64 y, .int .i64 z] 23)).alloc (.cells #[.int .i64 u, .int .i64 v, .int .i64 t] 23)) = w0 at *
          have kHA0 := HA.out.c0
          have kHA1 := HA.out.c1
          have kHA2 := HA.out.c2
          have kHC0 := HC.out.c0
          have kHC1 := HC.out.c1
          have kHC2 := HC.out.c2
          have kHD0 := HD.out.c0
          have kHD1 := HD.out.c1
          have kHD2 := HD.out.c2
          go_wp2_with fail
          refine (r1.out _ HB.out.below).mono ?_
          rintro e u1 ⟨rfl, hbl⟩
          clear kHA0 kHA1 kHA2 kHC0 kHC1 kHC2 kHD0 kHD1 kHD2
          have HB := Kp.mk (HB.out.step hbl)
          have HA := Kp.mk (HA.out.step hbl)
          have HC := Kp.mk (HC.out.step hbl)
          have HD := Kp.mk (HD.out.step hbl)
          clear hbl
          have kHA0 := HA.out.c0
          have kHA1 := HA.out.c1
          have kHA2 := HA.out.c2
          have kHC0 := HC.out.c0
          have kHC1 := HC.out.c1
          have kHC2 := HC.out.c2
          have kHD0 := HD.out.c0
          have kHD1 := HD.out.c1
          have kHD2 := HD.out.c2
          go_wp2_with fail
          refine (r2.out _).mono ?_
          rintro e u2 ⟨rfl, hbl⟩
          clear kHA0 kHA1 kHA2 kHC0 kHC1 kHC2 kHD0 kHD1 kHD2
          have HB := Kp.mk (HB.out.step hbl)
          have HA := Kp.mk (HA.out.step hbl)
          have HC := Kp.mk (HC.out.step hbl)
          have HD := Kp.mk (HD.out.step hbl)
          clear hbl
          have kHA0 := HA.out.c0
          have kHA1 := HA.out.c1
          have kHA2 := HA.out.c2
          have kHC0 := HC.out.c0
          have kHC1 := HC.out.c1
          have kHC2 := HC.out.c2
          have kHD0 := HD.out.c0
          have kHD1 := HD.out.c1
          have kHD2 := HD.out.c2
          go_wp2_with fail
          refine (r3.out _ HB.out.below).mono ?_
          rintro e u3 ⟨rfl, hbl⟩
          clear kHA0 kHA1 kHA2 kHC0 kHC1 kHC2 kHD0 kHD1 kHD2
          have HB := Kp.mk (HB.out.step hbl)
          have HA := Kp.mk (HA.out.step hbl)
          have HC := Kp.mk (HC.out.step hbl)
          have HD := Kp.mk (HD.out.step hbl)
          clear hbl
          have kHA0 := HA.out.c0
          have kHA1 := HA.out.c1
          have kHA2 := HA.out.c2
          have kHC0 := HC.out.c0
          have kHC1 := HC.out.c1
          have kHC2 := HC.out.c2
          have kHD0 := HD.out.c0
          have kHD1 := HD.out.c1
          have kHD2 := HD.out.c2
          go_wp2_with fail
          refine (r4.out _ HB.out.below).mono ?_
          rintro e u4 ⟨rfl, hbl⟩
          clear kHA0 kHA1 kHA2 kHC0 kHC1 kHC2 kHD0 kHD1 kHD2
          have HB := Kp.mk (HB.out.step hbl)
          have HA := Kp.mk (HA.out.step hbl)
          have HC := Kp.mk (HC.out.step hbl)
          have HD := Kp.mk (HD.out.step hbl)
          clear hbl
          have kHA0 := HA.out.c0
          have kHA1 := HA.out.c1
          have kHA2 := HA.out.c2
          have kHC0 := HC.out.c0
          have kHC1 := HC.out.c1
          have kHC2 := HC.out.c2
          have kHD0 := HD.out.c0
          have kHD1 := HD.out.c1
          have kHD2 := HD.out.c2
          go_wp2_with fail
          refine (rl.out _ HB.out.below).mono ?_
          rintro e u5 ⟨rfl, hbl⟩
          clear kHA0 kHA1 kHA2 kHC0 kHC1 kHC2 kHD0 kHD1 kHD2
          have HB := Kp.mk (HB.out.step hbl)
          have HA := Kp.mk (HA.out.step hbl)
          have HC := Kp.mk (HC.out.step hbl)
          have HD := Kp.mk (HD.out.step hbl)
          clear hbl
          have kHA0 := HA.out.c0
          have kHA1 := HA.out.c1
          have kHA2 := HA.out.c2
          have kHC0 := HC.out.c0
          have kHC1 := HC.out.c1
          have kHC2 := HC.out.c2
          have kHD0 := HD.out.c0
          have kHD1 := HD.out.c1
          have kHD2 := HD.out.c2
          go_wp2_with fail
          go_ret
          exact ⟨rfl, HB.out.below⟩
        · have hq0 : q ≤ 0 := htr (by omega) (by omega)
          clear htr hone
          go_enter Tryz.func5, Tryz.ntmps5
          go_upto_region 1 with fail
          generalize (((w.alloc (.cells #[.int .i64 a, .int .i64 b, .int .i64 c] 23)).alloc (.cells #[.int .i64 a, .int .i64 y, .int .i64 z] 23)).alloc (.cells #[.int .i64 u, .int .i64 v, .int .i64 t] 23)) = w0 at *
          have kHA0 := HA.out.c0
          have kHA1 := HA.out.c1
          have kHA2 := HA.out.c2
          have kHC0 := HC.out.c0
          have kHC1 := HC.out.c1
          have kHC2 := HC.out.c2
          have kHD0 := HD.out.c0
          have kHD1 := HD.out.c1
          have kHD2 := HD.out.c2
          go_wp2_with fail
          refine (r1.out _ HB.out.below).mono ?_
          rintro e u1 ⟨rfl, hbl⟩
          clear kHA0 kHA1 kHA2 kHC0 kHC1 kHC2 kHD0 kHD1 kHD2
          have HB := Kp.mk (HB.out.step hbl)
          have HA := Kp.mk (HA.out.step hbl)
          have HC := Kp.mk (HC.out.step hbl)
          have HD := Kp.mk (HD.out.step hbl)
          clear hbl
          have kHA0 := HA.out.c0
          have kHA1 := HA.out.c1
          have kHA2 := HA.out.c2
          have kHC0 := HC.out.c0
          have kHC1 := HC.out.c1
          have kHC2 := HC.out.c2
          have kHD0 := HD.out.c0
          have kHD1 := HD.out.c1
          have kHD2 := HD.out.c2
          go_wp2_with fail
          refine (r2.out _).mono ?_
          rintro e u2 ⟨rfl, hbl⟩
          clear kHA0 kHA1 kHA2 kHC0 kHC1 kHC2 kHD0 kHD1 kHD2
          have HB := Kp.mk (HB.out.step hbl)
          have HA := Kp.mk (HA.out.step hbl)
          have HC := Kp.mk (HC.out.step hbl)
          have HD := Kp.mk (HD.out.step hbl)
          clear hbl
          have kHA0 := HA.out.c0
          have kHA1 := HA.out.c1
          have kHA2 := HA.out.c2
          have kHC0 := HC.out.c0
          have kHC1 := HC.out.c1
          have kHC2 := HC.out.c2
          have kHD0 := HD.out.c0
          have kHD1 := HD.out.c1
          have kHD2 := HD.out.c2
          go_wp2_with fail
          refine (r3.out _ HB.out.below).mono ?_
          rintro e u3 ⟨rfl, hbl⟩
          clear kHA0 kHA1 kHA2 kHC0 kHC1 kHC2 kHD0 kHD1 kHD2
          have HB := Kp.mk (HB.out.step hbl)
          have HA := Kp.mk (HA.out.step hbl)
          have HC := Kp.mk (HC.out.step hbl)
          have HD := Kp.mk (HD.out.step hbl)
          clear hbl
          have kHA0 := HA.out.c0
          have kHA1 := HA.out.c1
          have kHA2 := HA.out.c2
          have kHC0 := HC.out.c0
          have kHC1 := HC.out.c1
          have kHC2 := HC.out.c2
          have kHD0 := HD.out.c0
          have kHD1 := HD.out.c1
          have kHD2 := HD.out.c2
          go_wp2_with fail
          refine (r4.out _ HB.out.below).mono ?_
          rintro e u4 ⟨rfl, hbl⟩
          clear kHA0 kHA1 kHA2 kHC0 kHC1 kHC2 kHD0 kHD1 kHD2
          have HB := Kp.mk (HB.out.step hbl)
          have HA := Kp.mk (HA.out.step hbl)
          have HC := Kp.mk (HC.out.step hbl)
          have HD := Kp.mk (HD.out.step hbl)
          clear hbl
          have kHA0 := HA.out.c0
          have kHA1 := HA.out.c1
          have kHA2 := HA.out.c2
          have kHC0 := HC.out.c0
          have kHC1 := HC.out.c1
          have kHC2 := HC.out.c2
          have kHD0 := HD.out.c0
          have kHD1 := HD.out.c1
          have kHD2 := HD.out.c2
          go_wp2_with fail
          refine (r5.out _ HB.out.below).mono ?_
          rintro e u5 ⟨rfl, hbl⟩
          clear kHA0 kHA1 kHA2 kHC0 kHC1 kHC2 kHD0 kHD1 kHD2
          have HB := Kp.mk (HB.out.step hbl)
          have HA := Kp.mk (HA.out.step hbl)
          have HC := Kp.mk (HC.out.step hbl)
          have HD := Kp.mk (HD.out.step hbl)
          clear hbl
          have kHA0 := HA.out.c0
          have kHA1 := HA.out.c1
          have kHA2 := HA.out.c2
          have kHC0 := HC.out.c0
          have kHC1 := HC.out.c1
          have kHC2 := HC.out.c2
          have kHD0 := HD.out.c0
          have kHD1 := HD.out.c1
          have kHD2 := HD.out.c2
          go_wp2_with fail
          refine (rl.out _ HB.out.below).mono ?_
          rintro e u6 ⟨rfl, hbl⟩
          clear kHA0 kHA1 kHA2 kHC0 kHC1 kHC2 kHD0 kHD1 kHD2
          have HB := Kp.mk (HB.out.step hbl)
          have HA := Kp.mk (HA.out.step hbl)
          have HC := Kp.mk (HC.out.step hbl)
          have HD := Kp.mk (HD.out.step hbl)
          clear hbl
          have kHA0 := HA.out.c0
          have kHA1 := HA.out.c1
          have kHA2 := HA.out.c2
          have kHC0 := HC.out.c0
          have kHC1 := HC.out.c1
          have kHC2 := HC.out.c2
          have kHD0 := HD.out.c0
          have kHD1 := HD.out.c1
          have kHD2 := HD.out.c2
          go_wp2_with fail
          go_ret
          exact ⟨rfl, HB.out.below⟩
    · by_cases gn : 0 < n
      · clear htr hone
        go_enter Tryz.func5, Tryz.ntmps5
        go_upto_region 1 with fail
        generalize (((w.alloc (.cells #[.int .i64 a, .int .i64 b, .int .i64 c] 23)).alloc (.cells #[.int .i64 a, .int .i64 b, .int .i64 z] 23)).alloc (.cells #[.int .i64 u, .int .i64 v, .int .i64 t] 23)) = w0 at *
        have kHA0 := HA.out.c0
        have kHA1 := HA.out.c1
        have kHA2 := HA.out.c2
        have kHC0 := HC.out.c0
        have kHC1 := HC.out.c1
        have kHC2 := HC.out.c2
        have kHD0 := HD.out.c0
        have kHD1 := HD.out.c1
        have kHD2 := HD.out.c2
        go_wp2_with fail
        refine (r1.out _ HB.out.below).mono ?_
        rintro e u1 ⟨rfl, hbl⟩
        clear kHA0 kHA1 kHA2 kHC0 kHC1 kHC2 kHD0 kHD1 kHD2
        have HB := Kp.mk (HB.out.step hbl)
        have HA := Kp.mk (HA.out.step hbl)
        have HC := Kp.mk (HC.out.step hbl)
        have HD := Kp.mk (HD.out.step hbl)
        clear hbl
        have kHA0 := HA.out.c0
        have kHA1 := HA.out.c1
        have kHA2 := HA.out.c2
        have kHC0 := HC.out.c0
        have kHC1 := HC.out.c1
        have kHC2 := HC.out.c2
        have kHD0 := HD.out.c0
        have kHD1 := HD.out.c1
        have kHD2 := HD.out.c2
        go_wp2_with fail
        refine (r2.out _).mono ?_
        rintro e u2 ⟨rfl, hbl⟩
        clear kHA0 kHA1 kHA2 kHC0 kHC1 kHC2 kHD0 kHD1 kHD2
        have HB := Kp.mk (HB.out.step hbl)
        have HA := Kp.mk (HA.out.step hbl)
        have HC := Kp.mk (HC.out.step hbl)
        have HD := Kp.mk (HD.out.step hbl)
        clear hbl
        have kHA0 := HA.out.c0
        have kHA1 := HA.out.c1
        have kHA2 := HA.out.c2
        have kHC0 := HC.out.c0
        have kHC1 := HC.out.c1
        have kHC2 := HC.out.c2
        have kHD0 := HD.out.c0
        have kHD1 := HD.out.c1
        have kHD2 := HD.out.c2
        go_wp2_with fail
        refine (r3.out _ HB.out.below).mono ?_
        rintro e u3 ⟨rfl, hbl⟩
        clear kHA0 kHA1 kHA2 kHC0 kHC1 kHC2 kHD0 kHD1 kHD2
        have HB := Kp.mk (HB.out.step hbl)
        have HA := Kp.mk (HA.out.step hbl)
        have HC := Kp.mk (HC.out.step hbl)
        have HD := Kp.mk (HD.out.step hbl)
        clear hbl
        have kHA0 := HA.out.c0
        have kHA1 := HA.out.c1
        have kHA2 := HA.out.c2
        have kHC0 := HC.out.c0
        have kHC1 := HC.out.c1
        have kHC2 := HC.out.c2
        have kHD0 := HD.out.c0
        have kHD1 := HD.out.c1
        have kHD2 := HD.out.c2
        go_wp2_with fail
        refine (rl.out _ HB.out.below).mono ?_
        rintro e u4 ⟨rfl, hbl⟩
        clear kHA0 kHA1 kHA2 kHC0 kHC1 kHC2 kHD0 kHD1 kHD2
        have HB := Kp.mk (HB.out.step hbl)
        have HA := Kp.mk (HA.out.step hbl)
        have HC := Kp.mk (HC.out.step hbl)
        have HD := Kp.mk (HD.out.step hbl)
        clear hbl
        have kHA0 := HA.out.c0
        have kHA1 := HA.out.c1
        have kHA2 := HA.out.c2
        have kHC0 := HC.out.c0
        have kHC1 := HC.out.c1
        have kHC2 := HC.out.c2
        have kHD0 := HD.out.c0
        have kHD1 := HD.out.c1
        have kHD2 := HD.out.c2
        go_wp2_with fail
        go_ret
        exact ⟨rfl, HB.out.below⟩
      · by_cases gp : 0 < p
        · clear htr hone
          go_enter Tryz.func5, Tryz.ntmps5
          go_upto_region 1 with fail
          generalize (((w.alloc (.cells #[.int .i64 a, .int .i64 b, .int .i64 c] 23)).alloc (.cells #[.int .i64 a, .int .i64 b, .int .i64 z] 23)).alloc (.cells #[.int .i64 u, .int .i64 v, .int .i64 t] 23)) = w0 at *
          have kHA0 := HA.out.c0
          have kHA1 := HA.out.c1
          have kHA2 := HA.out.c2
          have kHC0 := HC.out.c0
          have kHC1 := HC.out.c1
          have kHC2 := HC.out.c2
          have kHD0 := HD.out.c0
          have kHD1 := HD.out.c1
          have kHD2 := HD.out.c2
          go_wp2_with fail
          refine (r1.out _ HB.out.below).mono ?_
          rintro e u1 ⟨rfl, hbl⟩
          clear kHA0 kHA1 kHA2 kHC0 kHC1 kHC2 kHD0 kHD1 kHD2
          have HB := Kp.mk (HB.out.step hbl)
          have HA := Kp.mk (HA.out.step hbl)
          have HC := Kp.mk (HC.out.step hbl)
          have HD := Kp.mk (HD.out.step hbl)
          clear hbl
          have kHA0 := HA.out.c0
          have kHA1 := HA.out.c1
          have kHA2 := HA.out.c2
          have kHC0 := HC.out.c0
          have kHC1 := HC.out.c1
          have kHC2 := HC.out.c2
          have kHD0 := HD.out.c0
          have kHD1 := HD.out.c1
          have kHD2 := HD.out.c2
          go_wp2_with fail
          refine (r2.out _).mono ?_
          rintro e u2 ⟨rfl, hbl⟩
          clear kHA0 kHA1 kHA2 kHC0 kHC1 kHC2 kHD0 kHD1 kHD2
          have HB := Kp.mk (HB.out.step hbl)
          have HA := Kp.mk (HA.out.step hbl)
          have HC := Kp.mk (HC.out.step hbl)
          have HD := Kp.mk (HD.out.step hbl)
          clear hbl
          have kHA0 := HA.out.c0
          have kHA1 := HA.out.c1
          have kHA2 := HA.out.c2
          have kHC0 := HC.out.c0
          have kHC1 := HC.out.c1
          have kHC2 := HC.out.c2
          have kHD0 := HD.out.c0
          have kHD1 := HD.out.c1
          have kHD2 := HD.out.c2
          go_wp2_with fail
          refine (r3.out _ HB.out.below).mono ?_
          rintro e u3 ⟨rfl, hbl⟩
          clear kHA0 kHA1 kHA2 kHC0 kHC1 kHC2 kHD0 kHD1 kHD2
          have HB := Kp.mk (HB.out.step hbl)
          have HA := Kp.mk (HA.out.step hbl)
          have HC := Kp.mk (HC.out.step hbl)
          have HD := Kp.mk (HD.out.step hbl)
          clear hbl
          have kHA0 := HA.out.c0
          have kHA1 := HA.out.c1
          have kHA2 := HA.out.c2
          have kHC0 := HC.out.c0
          have kHC1 := HC.out.c1
          have kHC2 := HC.out.c2
          have kHD0 := HD.out.c0
          have kHD1 := HD.out.c1
          have kHD2 := HD.out.c2
          go_wp2_with fail
          refine (r4.out _ HB.out.below).mono ?_
          rintro e u4 ⟨rfl, hbl⟩
          clear kHA0 kHA1 kHA2 kHC0 kHC1 kHC2 kHD0 kHD1 kHD2
          have HB := Kp.mk (HB.out.step hbl)
          have HA := Kp.mk (HA.out.step hbl)
          have HC := Kp.mk (HC.out.step hbl)
          have HD := Kp.mk (HD.out.step hbl)
          clear hbl
          have kHA0 := HA.out.c0
          have kHA1 := HA.out.c1
          have kHA2 := HA.out.c2
          have kHC0 := HC.out.c0
          have kHC1 := HC.out.c1
          have kHC2 := HC.out.c2
          have kHD0 := HD.out.c0
          have kHD1 := HD.out.c1
          have kHD2 := HD.out.c2
          go_wp2_with fail
          refine (rl.out _ HB.out.below).mono ?_
          rintro e u5 ⟨rfl, hbl⟩
          clear kHA0 kHA1 kHA2 kHC0 kHC1 kHC2 kHD0 kHD1 kHD2
          have HB := Kp.mk (HB.out.step hbl)
          have HA := Kp.mk (HA.out.step hbl)
          have HC := Kp.mk (HC.out.step hbl)
          have HD := Kp.mk (HD.out.step hbl)
          clear hbl
          have kHA0 := HA.out.c0
          have kHA1 := HA.out.c1
          have kHA2 := HA.out.c2
          have kHC0 := HC.out.c0
          have kHC1 := HC.out.c1
          have kHC2 := HC.out.c2
          have kHD0 := HD.out.c0
          have kHD1 := HD.out.c1
          have kHD2 := HD.out.c2
          go_wp2_with fail
          go_ret
          exact ⟨rfl, HB.out.below⟩
        · have hq0 : q ≤ 0 := htr (by omega) (by omega)
          clear htr hone
          go_enter Tryz.func5, Tryz.ntmps5
          go_upto_region 1 with fail
          generalize (((w.alloc (.cells #[.int .i64 a, .int .i64 b, .int .i64 c] 23)).alloc (.cells #[.int .i64 a, .int .i64 b, .int .i64 z] 23)).alloc (.cells #[.int .i64 u, .int .i64 v, .int .i64 t] 23)) = w0 at *
          have kHA0 := HA.out.c0
          have kHA1 := HA.out.c1
          have kHA2 := HA.out.c2
          have kHC0 := HC.out.c0
          have kHC1 := HC.out.c1
          have kHC2 := HC.out.c2
          have kHD0 := HD.out.c0
          have kHD1 := HD.out.c1
          have kHD2 := HD.out.c2
          go_wp2_with fail
          refine (r1.out _ HB.out.below).mono ?_
          rintro e u1 ⟨rfl, hbl⟩
          clear kHA0 kHA1 kHA2 kHC0 kHC1 kHC2 kHD0 kHD1 kHD2
          have HB := Kp.mk (HB.out.step hbl)
          have HA := Kp.mk (HA.out.step hbl)
          have HC := Kp.mk (HC.out.step hbl)
          have HD := Kp.mk (HD.out.step hbl)
          clear hbl
          have kHA0 := HA.out.c0
          have kHA1 := HA.out.c1
          have kHA2 := HA.out.c2
          have kHC0 := HC.out.c0
          have kHC1 := HC.out.c1
          have kHC2 := HC.out.c2
          have kHD0 := HD.out.c0
          have kHD1 := HD.out.c1
          have kHD2 := HD.out.c2
          go_wp2_with fail
          refine (r2.out _).mono ?_
          rintro e u2 ⟨rfl, hbl⟩
          clear kHA0 kHA1 kHA2 kHC0 kHC1 kHC2 kHD0 kHD1 kHD2
          have HB := Kp.mk (HB.out.step hbl)
          have HA := Kp.mk (HA.out.step hbl)
          have HC := Kp.mk (HC.out.step hbl)
          have HD := Kp.mk (HD.out.step hbl)
          clear hbl
          have kHA0 := HA.out.c0
          have kHA1 := HA.out.c1
          have kHA2 := HA.out.c2
          have kHC0 := HC.out.c0
          have kHC1 := HC.out.c1
          have kHC2 := HC.out.c2
          have kHD0 := HD.out.c0
          have kHD1 := HD.out.c1
          have kHD2 := HD.out.c2
          go_wp2_with fail
          refine (r3.out _ HB.out.below).mono ?_
          rintro e u3 ⟨rfl, hbl⟩
          clear kHA0 kHA1 kHA2 kHC0 kHC1 kHC2 kHD0 kHD1 kHD2
          have HB := Kp.mk (HB.out.step hbl)
          have HA := Kp.mk (HA.out.step hbl)
          have HC := Kp.mk (HC.out.step hbl)
          have HD := Kp.mk (HD.out.step hbl)
          clear hbl
          have kHA0 := HA.out.c0
          have kHA1 := HA.out.c1
          have kHA2 := HA.out.c2
          have kHC0 := HC.out.c0
          have kHC1 := HC.out.c1
          have kHC2 := HC.out.c2
          have kHD0 := HD.out.c0
          have kHD1 := HD.out.c1
          have kHD2 := HD.out.c2
          go_wp2_with fail
          refine (r4.out _ HB.out.below).mono ?_
          rintro e u4 ⟨rfl, hbl⟩
          clear kHA0 kHA1 kHA2 kHC0 kHC1 kHC2 kHD0 kHD1 kHD2
          have HB := Kp.mk (HB.out.step hbl)
          have HA := Kp.mk (HA.out.step hbl)
          have HC := Kp.mk (HC.out.step hbl)
          have HD := Kp.mk (HD.out.step hbl)
          clear hbl
          have kHA0 := HA.out.c0
          have kHA1 := HA.out.c1
          have kHA2 := HA.out.c2
          have kHC0 := HC.out.c0
          have kHC1 := HC.out.c1
          have kHC2 := HC.out.c2
          have kHD0 := HD.out.c0
          have kHD1 := HD.out.c1
          have kHD2 := HD.out.c2
          go_wp2_with fail
          refine (r5.out _ HB.out.below).mono ?_
          rintro e u5 ⟨rfl, hbl⟩
          clear kHA0 kHA1 kHA2 kHC0 kHC1 kHC2 kHD0 kHD1 kHD2
          have HB := Kp.mk (HB.out.step hbl)
          have HA := Kp.mk (HA.out.step hbl)
          have HC := Kp.mk (HC.out.step hbl)
          have HD := Kp.mk (HD.out.step hbl)
          clear hbl
          have kHA0 := HA.out.c0
          have kHA1 := HA.out.c1
          have kHA2 := HA.out.c2
          have kHC0 := HC.out.c0
          have kHC1 := HC.out.c1
          have kHC2 := HC.out.c2
          have kHD0 := HD.out.c0
          have kHD1 := HD.out.c1
          have kHD2 := HD.out.c2
          go_wp2_with fail
          refine (rl.out _ HB.out.below).mono ?_
          rintro e u6 ⟨rfl, hbl⟩
          clear kHA0 kHA1 kHA2 kHC0 kHC1 kHC2 kHD0 kHD1 kHD2
          have HB := Kp.mk (HB.out.step hbl)
          have HA := Kp.mk (HA.out.step hbl)
          have HC := Kp.mk (HC.out.step hbl)
          have HD := Kp.mk (HD.out.step hbl)
          clear hbl
          have kHA0 := HA.out.c0
          have kHA1 := HA.out.c1
          have kHA2 := HA.out.c2
          have kHC0 := HC.out.c0
          have kHC1 := HC.out.c1
          have kHC2 := HC.out.c2
          have kHD0 := HD.out.c0
          have kHD1 := HD.out.c1
          have kHD2 := HD.out.c2
          go_wp2_with fail
          go_ret
          exact ⟨rfl, HB.out.below⟩
end Go.Proofs.YtoafigehcgledaaGreatDoor
