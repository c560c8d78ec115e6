/-
  DERIVED. WALK of the law EndsOrder, given the contracts of package ends: the first end is not the greater. Written by mken2.py.
-/
import Derived.Test.YtbnlomjlapnoaaaDoorEnCore
namespace Go.Proofs.YtbnlomjlapnoaaaDoor
open Go.RowKit
set_option maxRecDepth 100000

theorem eb_three (w : World) (f d g e h i : Int) : Eb w w.heap.size f d (((w.alloc (.cells #[.int .i8 f, .int .i64 d] 24)).alloc (.cells #[.int .i8 g, .int .i64 e] 24)).alloc (.cells #[.int .i8 h, .int .i64 i] 24)) ∧ Eb w (w.heap.size + 1) g e (((w.alloc (.cells #[.int .i8 f, .int .i64 d] 24)).alloc (.cells #[.int .i8 g, .int .i64 e] 24)).alloc (.cells #[.int .i8 h, .int .i64 i] 24)) ∧ Eb w (w.heap.size + 1 + 1) h i (((w.alloc (.cells #[.int .i8 f, .int .i64 d] 24)).alloc (.cells #[.int .i8 g, .int .i64 e] 24)).alloc (.cells #[.int .i8 h, .int .i64 i] 24)) := by
  have h0 := eb_two w f d g e
  have h2 := eb_new h i 24 h0.1.below
  rw [World.size_alloc, World.size_alloc] at h2
  have s := (Below.refl ((w.alloc (.cells #[.int .i8 f, .int .i64 d] 24)).alloc (.cells #[.int .i8 g, .int .i64 e] 24)).heap.size _).alloc (Nat.le_refl _) (.cells #[.int .i8 h, .int .i64 i] 24)
  exact ⟨h0.1.step s, h0.2.step s, h2⟩
set_option maxHeartbeats 8000000 in
theorem lawOrder_zsl {I : World → Prop} (C : EndFns I) (f d h i : Int) (w : World) (hI : I w) (d0 : -9223372036854775808 ≤ d) (d1 : d ≤ 9223372036854775807) (i0 : -9223372036854775808 ≤ i) (i1 : i ≤ 9223372036854775807) (hn : cmpE f d f d = 0) (hp : cmpE f d h i ≤ 0) :
    Calls Tryd.prog 3 #[.agg #[.int .i8 f, .int .i64 d], .agg #[.int .i8 f, .int .i64 d], .agg #[.int .i8 h, .int .i64 i]] w fun x w' => x = .returned (.bool true) ∧ Below w.heap.size w w' := by
  have HA := Kp.mk (eb_three w f d f d h i).1
  have HC := Kp.mk (eb_three w f d f d h i).2.1
  have HD := Kp.mk (eb_three w f d f d h i).2.2
  have HB := Kp.mk (Bl.mk HA.out.below)
  have HI := Kp.mk (fun (v : World) (h : Below w.heap.size w v) => C.keep hI h)
  clear hI
  have rl := Kp.mk (fun v (hw : Below w.heap.size w v) => C.lives v (HI.out v hw))
  have hs : cmpE f d f d = 0 := by rw [cmpE_swap, hn]; rfl
  obtain ⟨p, hp2⟩ : ∃ p, cmpE f d h i = p := ⟨_, rfl⟩
  rw [hp2] at hp
  have tp : decide (p ≤ 0) = true := decide_eq_true hp
  have tq : decide (0 < p) = false := decide_eq_false (by omega)
  have r5 := Kp.mk (fun v (hw : Below w.heap.size w v) => C.cmp v (HI.out v hw) d0 d1 i0 i1 hp2)
  have r1 := Kp.mk (fun v (hw : Below w.heap.size w v) => C.cmp v (HI.out v hw) d0 d1 d0 d1 hn)
  have r2 := Kp.mk (fun w => refECmp_is hn w)
  have r3 := Kp.mk (fun v (hw : Below w.heap.size w v) => C.cmp v (HI.out v hw) d0 d1 d0 d1 hs)
  have r4 := Kp.mk (fun v (hw : Below w.heap.size w v) => C.cmp v (HI.out v hw) d0 d1 i0 i1 hp2)
  have r6 := Kp.mk (fun v (hw : Below w.heap.size w v) => C.min_le (f := f) (g := f) v (HI.out v hw) d0 d1 d0 d1 (by omega))
  have r7 := Kp.mk (fun v (hw : Below w.heap.size w v) => C.max_le (f := f) (g := f) v (HI.out v hw) d0 d1 d0 d1 (by omega))
  clear C d0 d1 i0 i1 hn hs hp2 hp
  go_enter Tryd.func3, Tryd.ntmps3
  go_upto_region 1 with fail
  generalize (((w.alloc (.cells #[.int .i8 f, .int .i64 d] 24)).alloc (.cells #[.int .i8 f, .int .i64 d] 24)).alloc (.cells #[.int .i8 h, .int .i64 i] 24)) = w0 at *
  have kHA0 := HA.out.c0
  have kHA1 := HA.out.c1
  have kHC0 := HC.out.c0
  have kHC1 := HC.out.c1
  have kHD0 := HD.out.c0
  have kHD1 := HD.out.c1
  go_wp2_with fail
  refine (r1.out _ HB.out.below).mono ?_
  rintro e u1 ⟨rfl, hbl⟩
  clear kHA0 kHA1 kHC0 kHC1 kHD0 kHD1
  have HB := Kp.mk (HB.out.step hbl)
  have HA := Kp.mk (HA.out.step hbl)
  have HC := Kp.mk (HC.out.step hbl)
  have HD := Kp.mk (HD.out.step hbl)
  clear hbl
  have kHA0 := HA.out.c0
  have kHA1 := HA.out.c1
  have kHC0 := HC.out.c0
  have kHC1 := HC.out.c1
  have kHD0 := HD.out.c0
  have kHD1 := HD.out.c1
  go_wp2_with fail
  refine (r2.out _).mono ?_
  rintro e u2 ⟨rfl, hbl⟩
  clear kHA0 kHA1 kHC0 kHC1 kHD0 kHD1
  have HB := Kp.mk (HB.out.step hbl)
  have HA := Kp.mk (HA.out.step hbl)
  have HC := Kp.mk (HC.out.step hbl)
  have HD := Kp.mk (HD.out.step hbl)
  clear hbl
  have kHA0 := HA.out.c0
  have kHA1 := HA.out.c1
  have kHC0 := HC.out.c0
  have kHC1 := HC.out.c1
  have kHD0 := HD.out.c0
  have kHD1 := HD.out.c1
  go_wp2_with fail
  refine (r3.out _ HB.out.below).mono ?_
  rintro e u3 ⟨rfl, hbl⟩
  clear kHA0 kHA1 kHC0 kHC1 kHD0 kHD1
  have HB := Kp.mk (HB.out.step hbl)
  have HA := Kp.mk (HA.out.step hbl)
  have HC := Kp.mk (HC.out.step hbl)
  have HD := Kp.mk (HD.out.step hbl)
  clear hbl
  have kHA0 := HA.out.c0
  have kHA1 := HA.out.c1
  have kHC0 := HC.out.c0
  have kHC1 := HC.out.c1
  have kHD0 := HD.out.c0
  have kHD1 := HD.out.c1
  go_wp2_with fail
  refine (r4.out _ HB.out.below).mono ?_
  rintro e u4 ⟨rfl, hbl⟩
  clear kHA0 kHA1 kHC0 kHC1 kHD0 kHD1
  have HB := Kp.mk (HB.out.step hbl)
  have HA := Kp.mk (HA.out.step hbl)
  have HC := Kp.mk (HC.out.step hbl)
  have HD := Kp.mk (HD.out.step hbl)
  clear hbl
  have kHA0 := HA.out.c0
  have kHA1 := HA.out.c1
  have kHC0 := HC.out.c0
  have kHC1 := HC.out.c1
  have kHD0 := HD.out.c0
  have kHD1 := HD.out.c1
  go_wp2_with fail
  refine (r5.out _ HB.out.below).mono ?_
  rintro e u5 ⟨rfl, hbl⟩
  clear kHA0 kHA1 kHC0 kHC1 kHD0 kHD1
  have HB := Kp.mk (HB.out.step hbl)
  have HA := Kp.mk (HA.out.step hbl)
  have HC := Kp.mk (HC.out.step hbl)
  have HD := Kp.mk (HD.out.step hbl)
  clear hbl
  have kHA0 := HA.out.c0
  have kHA1 := HA.out.c1
  have kHC0 := HC.out.c0
  have kHC1 := HC.out.c1
  have kHD0 := HD.out.c0
  have kHD1 := HD.out.c1
  go_upto_region 6 with fail
  have b1 : ∀ o1, Below u5.heap.size u5 (u5.alloc o1).drew := fun o1 => ((Below.refl u5.heap.size u5).alloc (Nat.le_refl _) o1).drew
  have b2 : ∀ o1 o2, Below u5.heap.size u5 ((u5.alloc o1).alloc o2).drew := fun o1 o2 => (((Below.refl u5.heap.size u5).alloc (Nat.le_refl _) o1).alloc (by simp) o2).drew
  have xHA0 : ∀ o1, (u5.alloc o1).drew.cell? ⟨w.heap.size, 0, none⟩ = some (.int .i8 f) := fun o1 => (HA.out.step (b1 o1)).c0
  have yHA0 : ∀ o1 o2, ((u5.alloc o1).alloc o2).drew.cell? ⟨w.heap.size, 0, none⟩ = some (.int .i8 f) := fun o1 o2 => (HA.out.step (b2 o1 o2)).c0
  have xHA1 : ∀ o1, (u5.alloc o1).drew.cell? ⟨w.heap.size, 1, none⟩ = some (.int .i64 d) := fun o1 => (HA.out.step (b1 o1)).c1
  have yHA1 : ∀ o1 o2, ((u5.alloc o1).alloc o2).drew.cell? ⟨w.heap.size, 1, none⟩ = some (.int .i64 d) := fun o1 o2 => (HA.out.step (b2 o1 o2)).c1
  have xHC0 : ∀ o1, (u5.alloc o1).drew.cell? ⟨w.heap.size + 1, 0, none⟩ = some (.int .i8 f) := fun o1 => (HC.out.step (b1 o1)).c0
  have yHC0 : ∀ o1 o2, ((u5.alloc o1).alloc o2).drew.cell? ⟨w.heap.size + 1, 0, none⟩ = some (.int .i8 f) := fun o1 o2 => (HC.out.step (b2 o1 o2)).c0
  have xHC1 : ∀ o1, (u5.alloc o1).drew.cell? ⟨w.heap.size + 1, 1, none⟩ = some (.int .i64 d) := fun o1 => (HC.out.step (b1 o1)).c1
  have yHC1 : ∀ o1 o2, ((u5.alloc o1).alloc o2).drew.cell? ⟨w.heap.size + 1, 1, none⟩ = some (.int .i64 d) := fun o1 o2 => (HC.out.step (b2 o1 o2)).c1
  go_region
  · clear b1 b2 xHA0 yHA0 xHA1 yHA1 xHC0 yHC0 xHC1 yHC1
    clear kHA0 kHA1 kHC0 kHC1 kHD0 kHD1
    have HX := Kp.mk (eb_new f d 24 HB.out.below)
    have hx := eb_new f d 24 HX.out.below
    rw [World.size_alloc] at hx
    have HY := Kp.mk hx
    clear hx
    have HX := Kp.mk (HX.out.step ((Below.refl (u5.alloc (.cells #[.int .i8 f, .int .i64 d] 24)).heap.size _).alloc (Nat.le_refl _) (.cells #[.int .i8 f, .int .i64 d] 24)))
    have hbl := ((Below.refl u5.heap.size u5).alloc (Nat.le_refl _) (.cells #[.int .i8 f, .int .i64 d] 24)).alloc (by simp) (.cells #[.int .i8 f, .int .i64 d] 24)
    have hbl := hbl.drew
    have HX := Kp.mk (HX.out.step (Below.refl ((u5.alloc (.cells #[.int .i8 f, .int .i64 d] 24)).alloc (.cells #[.int .i8 f, .int .i64 d] 24)).heap.size _).drew)
    have HY := Kp.mk (HY.out.step (Below.refl ((u5.alloc (.cells #[.int .i8 f, .int .i64 d] 24)).alloc (.cells #[.int .i8 f, .int .i64 d] 24)).heap.size _).drew)
    have HB := Kp.mk (HB.out.step hbl)
    have HA := Kp.mk (HA.out.step hbl)
    have HC := Kp.mk (HC.out.step hbl)
    have HD := Kp.mk (HD.out.step hbl)
    clear hbl
    generalize (((u5.alloc (.cells #[.int .i8 f, .int .i64 d] 24)).alloc (.cells #[.int .i8 f, .int .i64 d] 24)).drew) = u6 at *
    generalize u5.heap.size = g1 at *
    have kHA0 := HA.out.c0
    have kHA1 := HA.out.c1
    have kHC0 := HC.out.c0
    have kHC1 := HC.out.c1
    have kHD0 := HD.out.c0
    have kHD1 := HD.out.c1
    have kHX0 := HX.out.c0
    have kHX1 := HX.out.c1
    have kHY0 := HY.out.c0
    have kHY1 := HY.out.c1
    go_upto_region 9 with fail
    have hbl := (Below.refl u6.heap.size u6).drew
    have HBz := Kp.mk (HB.out.step hbl)
    have HAz := Kp.mk (HA.out.step hbl)
    have HCz := Kp.mk (HC.out.step hbl)
    have HDz := Kp.mk (HD.out.step hbl)
    have HXz := Kp.mk (HX.out.step hbl)
    have HYz := Kp.mk (HY.out.step hbl)
    have kHA0z := HAz.out.c0
    have kHA1z := HAz.out.c1
    have kHC0z := HCz.out.c0
    have kHC1z := HCz.out.c1
    have kHD0z := HDz.out.c0
    have kHD1z := HDz.out.c1
    have kHX0z := HXz.out.c0
    have kHX1z := HXz.out.c1
    have kHY0z := HYz.out.c0
    have kHY1z := HYz.out.c1
    clear hbl
    go_region_held3 (fun w' => w'.cell? ⟨w.heap.size, 0, none⟩ = some (.int .i8 f) ∧ w'.cell? ⟨w.heap.size, 1, none⟩ = some (.int .i64 d) ∧ w'.cell? ⟨w.heap.size + 1, 0, none⟩ = some (.int .i8 f) ∧ w'.cell? ⟨w.heap.size + 1, 1, none⟩ = some (.int .i64 d) ∧ w'.cell? ⟨w.heap.size + 1 + 1, 0, none⟩ = some (.int .i8 h) ∧ w'.cell? ⟨w.heap.size + 1 + 1, 1, none⟩ = some (.int .i64 i) ∧ w'.cell? ⟨g1, 0, none⟩ = some (.int .i8 f) ∧ w'.cell? ⟨g1, 1, none⟩ = some (.int .i64 d) ∧ w'.cell? ⟨g1 + 1, 0, none⟩ = some (.int .i8 f) ∧ w'.cell? ⟨g1 + 1, 1, none⟩ = some (.int .i64 d)) (first | (with_reducible exact ⟨kHA0, kHA1, kHC0, kHC1, kHD0, kHD1, kHX0, kHX1, kHY0, kHY1⟩) | (with_reducible exact ⟨kHA0z, kHA1z, kHC0z, kHC1z, kHD0z, kHD1z, kHX0z, kHX1z, kHY0z, kHY1z⟩) | (with_reducible exact ⟨kHA0_u7, kHA1_u7, kHC0_u7, kHC1_u7, kHD0_u7, kHD1_u7, kHX0_u7, kHX1_u7, kHY0_u7, kHY1_u7⟩) | (with_reducible exact ⟨kHA0_u8, kHA1_u8, kHC0_u8, kHC1_u8, kHD0_u8, kHD1_u8, kHX0_u8, kHX1_u8, kHY0_u8, kHY1_u8⟩) | (with_reducible exact ⟨kHA0_u9, kHA1_u9, kHC0_u9, kHC1_u9, kHD0_u9, kHD1_u9, kHX0_u9, kHX1_u9, kHY0_u9, kHY1_u9⟩) | go_keep)
      (first
        | (go_at_call 10; (with_reducible show Calls _ _ _ u6.drew _); (with_reducible refine (r6.out _ HBz.out.below).mono ?_); rintro e u7 ⟨rfl, hb⟩; have HB_u7 := Kp.mk (HBz.out.step hb); have HA_u7 := Kp.mk (HAz.out.step hb); have HC_u7 := Kp.mk (HCz.out.step hb); have HD_u7 := Kp.mk (HDz.out.step hb); have HX_u7 := Kp.mk (HXz.out.step hb); have HY_u7 := Kp.mk (HYz.out.step hb); have kHA0_u7 := HA_u7.out.c0; have kHA1_u7 := HA_u7.out.c1; have kHC0_u7 := HC_u7.out.c0; have kHC1_u7 := HC_u7.out.c1; have kHD0_u7 := HD_u7.out.c0; have kHD1_u7 := HD_u7.out.c1; have kHX0_u7 := HX_u7.out.c0; have kHX1_u7 := HX_u7.out.c1; have kHY0_u7 := HY_u7.out.c0; have kHY1_u7 := HY_u7.out.c1; clear hb)
        | (go_at_call 11; (with_reducible show Calls _ _ _ u7 _); (with_reducible refine (r7.out _ HB_u7.out.below).mono ?_); rintro e u8 ⟨rfl, hb⟩; have HB_u8 := Kp.mk (HB_u7.out.step hb); have HA_u8 := Kp.mk (HA_u7.out.step hb); have HC_u8 := Kp.mk (HC_u7.out.step hb); have HD_u8 := Kp.mk (HD_u7.out.step hb); have HX_u8 := Kp.mk (HX_u7.out.step hb); have HY_u8 := Kp.mk (HY_u7.out.step hb); have kHA0_u8 := HA_u8.out.c0; have kHA1_u8 := HA_u8.out.c1; have kHC0_u8 := HC_u8.out.c0; have kHC1_u8 := HC_u8.out.c1; have kHD0_u8 := HD_u8.out.c0; have kHD1_u8 := HD_u8.out.c1; have kHX0_u8 := HX_u8.out.c0; have kHX1_u8 := HX_u8.out.c1; have kHY0_u8 := HY_u8.out.c0; have kHY1_u8 := HY_u8.out.c1; clear hb)
        | (go_at_call 12; (with_reducible show Calls _ _ _ u8 _); (with_reducible refine (rl.out _ HB_u8.out.below).mono ?_); rintro e u9 ⟨rfl, hb⟩; have HB_u9 := Kp.mk (HB_u8.out.step hb); have HA_u9 := Kp.mk (HA_u8.out.step hb); have HC_u9 := Kp.mk (HC_u8.out.step hb); have HD_u9 := Kp.mk (HD_u8.out.step hb); have HX_u9 := Kp.mk (HX_u8.out.step hb); have HY_u9 := Kp.mk (HY_u8.out.step hb); have kHA0_u9 := HA_u9.out.c0; have kHA1_u9 := HA_u9.out.c1; have kHC0_u9 := HC_u9.out.c0; have kHC1_u9 := HC_u9.out.c1; have kHD0_u9 := HD_u9.out.c0; have kHD1_u9 := HD_u9.out.c1; have kHX0_u9 := HX_u9.out.c0; have kHX1_u9 := HX_u9.out.c1; have kHY0_u9 := HY_u9.out.c0; have kHY1_u9 := HY_u9.out.c1; clear hb))
    have HB := HB_u9
    have HA := HA_u9
    have HC := HC_u9
    have HD := HD_u9
    have HX := HX_u9
    have HY := HY_u9
    have kHA0 := HA.out.c0
    have kHA1 := HA.out.c1
    have kHC0 := HC.out.c0
    have kHC1 := HC.out.c1
    have kHD0 := HD.out.c0
    have kHD1 := HD.out.c1
    have kHX0 := HX.out.c0
    have kHX1 := HX.out.c1
    have kHY0 := HY.out.c0
    have kHY1 := HY.out.c1
    go_wp2_with fail
    go_ret
    exact ⟨rfl, HB.out.below⟩
  · clear b1 b2 xHA0 yHA0 xHA1 yHA1 xHC0 yHC0 xHC1 yHC1
    clear kHA0 kHA1 kHC0 kHC1 kHD0 kHD1
    have HY := Kp.mk (eb_new f d 24 HB.out.below)
    have hx := eb_new f d 24 HY.out.below
    rw [World.size_alloc] at hx
    have HX := Kp.mk hx
    clear hx
    have HY := Kp.mk (HY.out.step ((Below.refl (u5.alloc (.cells #[.int .i8 f, .int .i64 d] 24)).heap.size _).alloc (Nat.le_refl _) (.cells #[.int .i8 f, .int .i64 d] 24)))
    have hbl := ((Below.refl u5.heap.size u5).alloc (Nat.le_refl _) (.cells #[.int .i8 f, .int .i64 d] 24)).alloc (by simp) (.cells #[.int .i8 f, .int .i64 d] 24)
    have hbl := hbl.drew
    have HY := Kp.mk (HY.out.step (Below.refl ((u5.alloc (.cells #[.int .i8 f, .int .i64 d] 24)).alloc (.cells #[.int .i8 f, .int .i64 d] 24)).heap.size _).drew)
    have HX := Kp.mk (HX.out.step (Below.refl ((u5.alloc (.cells #[.int .i8 f, .int .i64 d] 24)).alloc (.cells #[.int .i8 f, .int .i64 d] 24)).heap.size _).drew)
    have HB := Kp.mk (HB.out.step hbl)
    have HA := Kp.mk (HA.out.step hbl)
    have HC := Kp.mk (HC.out.step hbl)
    have HD := Kp.mk (HD.out.step hbl)
    clear hbl
    generalize (((u5.alloc (.cells #[.int .i8 f, .int .i64 d] 24)).alloc (.cells #[.int .i8 f, .int .i64 d] 24)).drew) = u6 at *
    generalize u5.heap.size = g1 at *
    have kHA0 := HA.out.c0
    have kHA1 := HA.out.c1
    have kHC0 := HC.out.c0
    have kHC1 := HC.out.c1
    have kHD0 := HD.out.c0
    have kHD1 := HD.out.c1
    have kHY0 := HY.out.c0
    have kHY1 := HY.out.c1
    have kHX0 := HX.out.c0
    have kHX1 := HX.out.c1
    go_upto_region 9 with fail
    have hbl := (Below.refl u6.heap.size u6).drew
    have HBz := Kp.mk (HB.out.step hbl)
    have HAz := Kp.mk (HA.out.step hbl)
    have HCz := Kp.mk (HC.out.step hbl)
    have HDz := Kp.mk (HD.out.step hbl)
    have HYz := Kp.mk (HY.out.step hbl)
    have HXz := Kp.mk (HX.out.step hbl)
    have kHA0z := HAz.out.c0
    have kHA1z := HAz.out.c1
    have kHC0z := HCz.out.c0
    have kHC1z := HCz.out.c1
    have kHD0z := HDz.out.c0
    have kHD1z := HDz.out.c1
    have kHY0z := HYz.out.c0
    have kHY1z := HYz.out.c1
    have kHX0z := HXz.out.c0
    have kHX1z := HXz.out.c1
    clear hbl
    go_region_held3 (fun w' => w'.cell? ⟨w.heap.size, 0, none⟩ = some (.int .i8 f) ∧ w'.cell? ⟨w.heap.size, 1, none⟩ = some (.int .i64 d) ∧ w'.cell? ⟨w.heap.size + 1, 0, none⟩ = some (.int .i8 f) ∧ w'.cell? ⟨w.heap.size + 1, 1, none⟩ = some (.int .i64 d) ∧ w'.cell? ⟨w.heap.size + 1 + 1, 0, none⟩ = some (.int .i8 h) ∧ w'.cell? ⟨w.heap.size + 1 + 1, 1, none⟩ = some (.int .i64 i) ∧ w'.cell? ⟨g1, 0, none⟩ = some (.int .i8 f) ∧ w'.cell? ⟨g1, 1, none⟩ = some (.int .i64 d) ∧ w'.cell? ⟨g1 + 1, 0, none⟩ = some (.int .i8 f) ∧ w'.cell? ⟨g1 + 1, 1, none⟩ = some (.int .i64 d)) (first | (with_reducible exact ⟨kHA0, kHA1, kHC0, kHC1, kHD0, kHD1, kHY0, kHY1, kHX0, kHX1⟩) | (with_reducible exact ⟨kHA0z, kHA1z, kHC0z, kHC1z, kHD0z, kHD1z, kHY0z, kHY1z, kHX0z, kHX1z⟩) | (with_reducible exact ⟨kHA0_u7, kHA1_u7, kHC0_u7, kHC1_u7, kHD0_u7, kHD1_u7, kHY0_u7, kHY1_u7, kHX0_u7, kHX1_u7⟩) | (with_reducible exact ⟨kHA0_u8, kHA1_u8, kHC0_u8, kHC1_u8, kHD0_u8, kHD1_u8, kHY0_u8, kHY1_u8, kHX0_u8, kHX1_u8⟩) | (with_reducible exact ⟨kHA0_u9, kHA1_u9, kHC0_u9, kHC1_u9, kHD0_u9, kHD1_u9, kHY0_u9, kHY1_u9, kHX0_u9, kHX1_u9⟩) | go_keep)
      (first
        | (go_at_call 10; (with_reducible show Calls _ _ _ u6.drew _); (with_reducible refine (r6.out _ HBz.out.below).mono ?_); rintro e u7 ⟨rfl, hb⟩; have HB_u7 := Kp.mk (HBz.out.step hb); have HA_u7 := Kp.mk (HAz.out.step hb); have HC_u7 := Kp.mk (HCz.out.step hb); have HD_u7 := Kp.mk (HDz.out.step hb); have HY_u7 := Kp.mk (HYz.out.step hb); have HX_u7 := Kp.mk (HXz.out.step hb); have kHA0_u7 := HA_u7.out.c0; have kHA1_u7 := HA_u7.out.c1; have kHC0_u7 := HC_u7.out.c0; have kHC1_u7 := HC_u7.out.c1; have kHD0_u7 := HD_u7.out.c0; have kHD1_u7 := HD_u7.out.c1; have kHY0_u7 := HY_u7.out.c0; have kHY1_u7 := HY_u7.out.c1; have kHX0_u7 := HX_u7.out.c0; have kHX1_u7 := HX_u7.out.c1; clear hb)
        | (go_at_call 11; (with_reducible show Calls _ _ _ u7 _); (with_reducible refine (r7.out _ HB_u7.out.below).mono ?_); rintro e u8 ⟨rfl, hb⟩; have HB_u8 := Kp.mk (HB_u7.out.step hb); have HA_u8 := Kp.mk (HA_u7.out.step hb); have HC_u8 := Kp.mk (HC_u7.out.step hb); have HD_u8 := Kp.mk (HD_u7.out.step hb); have HY_u8 := Kp.mk (HY_u7.out.step hb); have HX_u8 := Kp.mk (HX_u7.out.step hb); have kHA0_u8 := HA_u8.out.c0; have kHA1_u8 := HA_u8.out.c1; have kHC0_u8 := HC_u8.out.c0; have kHC1_u8 := HC_u8.out.c1; have kHD0_u8 := HD_u8.out.c0; have kHD1_u8 := HD_u8.out.c1; have kHY0_u8 := HY_u8.out.c0; have kHY1_u8 := HY_u8.out.c1; have kHX0_u8 := HX_u8.out.c0; have kHX1_u8 := HX_u8.out.c1; clear hb)
        | (go_at_call 12; (with_reducible show Calls _ _ _ u8 _); (with_reducible refine (rl.out _ HB_u8.out.below).mono ?_); rintro e u9 ⟨rfl, hb⟩; have HB_u9 := Kp.mk (HB_u8.out.step hb); have HA_u9 := Kp.mk (HA_u8.out.step hb); have HC_u9 := Kp.mk (HC_u8.out.step hb); have HD_u9 := Kp.mk (HD_u8.out.step hb); have HY_u9 := Kp.mk (HY_u8.out.step hb); have HX_u9 := Kp.mk (HX_u8.out.step hb); have kHA0_u9 := HA_u9.out.c0; have kHA1_u9 := HA_u9.out.c1; have kHC0_u9 := HC_u9.out.c0; have kHC1_u9 := HC_u9.out.c1; have kHD0_u9 := HD_u9.out.c0; have kHD1_u9 := HD_u9.out.c1; have kHY0_u9 := HY_u9.out.c0; have kHY1_u9 := HY_u9.out.c1; have kHX0_u9 := HX_u9.out.c0; have kHX1_u9 := HX_u9.out.c1; clear hb))
    have HB := HB_u9
    have HA := HA_u9
    have HC := HC_u9
    have HD := HD_u9
    have HY := HY_u9
    have HX := HX_u9
    have kHA0 := HA.out.c0
    have kHA1 := HA.out.c1
    have kHC0 := HC.out.c0
    have kHC1 := HC.out.c1
    have kHD0 := HD.out.c0
    have kHD1 := HD.out.c1
    have kHY0 := HY.out.c0
    have kHY1 := HY.out.c1
    have kHX0 := HX.out.c0
    have kHX1 := HX.out.c1
    go_wp2_with fail
    go_ret
    exact ⟨rfl, HB.out.below⟩
set_option maxHeartbeats 8000000 in
theorem lawOrder_zsg {I : World → Prop} (C : EndFns I) (f d h i : Int) (w : World) (hI : I w) (d0 : -9223372036854775808 ≤ d) (d1 : d ≤ 9223372036854775807) (i0 : -9223372036854775808 ≤ i) (i1 : i ≤ 9223372036854775807) (hn : cmpE f d f d = 0) (hp : ¬ cmpE f d h i ≤ 0) :
    Calls Tryd.prog 3 #[.agg #[.int .i8 f, .int .i64 d], .agg #[.int .i8 f, .int .i64 d], .agg #[.int .i8 h, .int .i64 i]] w fun x w' => x = .returned (.bool true) ∧ Below w.heap.size w w' := by
  have HA := Kp.mk (eb_three w f d f d h i).1
  have HC := Kp.mk (eb_three w f d f d h i).2.1
  have HD := Kp.mk (eb_three w f d f d h i).2.2
  have HB := Kp.mk (Bl.mk HA.out.below)
  have HI := Kp.mk (fun (v : World) (h : Below w.heap.size w v) => C.keep hI h)
  clear hI
  have rl := Kp.mk (fun v (hw : Below w.heap.size w v) => C.lives v (HI.out v hw))
  have hs : cmpE f d f d = 0 := by rw [cmpE_swap, hn]; rfl
  obtain ⟨p, hp2⟩ : ∃ p, cmpE f d h i = p := ⟨_, rfl⟩
  rw [hp2] at hp
  have tp : decide (p ≤ 0) = false := decide_eq_false hp
  have r1 := Kp.mk (fun v (hw : Below w.heap.size w v) => C.cmp v (HI.out v hw) d0 d1 d0 d1 hn)
  have r2 := Kp.mk (fun w => refECmp_is hn w)
  have r3 := Kp.mk (fun v (hw : Below w.heap.size w v) => C.cmp v (HI.out v hw) d0 d1 d0 d1 hs)
  have r4 := Kp.mk (fun v (hw : Below w.heap.size w v) => C.cmp v (HI.out v hw) d0 d1 i0 i1 hp2)
  have r6 := Kp.mk (fun v (hw : Below w.heap.size w v) => C.min_le (f := f) (g := f) v (HI.out v hw) d0 d1 d0 d1 (by omega))
  have r7 := Kp.mk (fun v (hw : Below w.heap.size w v) => C.max_le (f := f) (g := f) v (HI.out v hw) d0 d1 d0 d1 (by omega))
  clear C d0 d1 i0 i1 hn hs hp2 hp
  go_enter Tryd.func3, Tryd.ntmps3
  go_upto_region 1 with fail
  generalize (((w.alloc (.cells #[.int .i8 f, .int .i64 d] 24)).alloc (.cells #[.int .i8 f, .int .i64 d] 24)).alloc (.cells #[.int .i8 h, .int .i64 i] 24)) = w0 at *
  have kHA0 := HA.out.c0
  have kHA1 := HA.out.c1
  have kHC0 := HC.out.c0
  have kHC1 := HC.out.c1
  have kHD0 := HD.out.c0
  have kHD1 := HD.out.c1
  go_wp2_with fail
  refine (r1.out _ HB.out.below).mono ?_
  rintro e u1 ⟨rfl, hbl⟩
  clear kHA0 kHA1 kHC0 kHC1 kHD0 kHD1
  have HB := Kp.mk (HB.out.step hbl)
  have HA := Kp.mk (HA.out.step hbl)
  have HC := Kp.mk (HC.out.step hbl)
  have HD := Kp.mk (HD.out.step hbl)
  clear hbl
  have kHA0 := HA.out.c0
  have kHA1 := HA.out.c1
  have kHC0 := HC.out.c0
  have kHC1 := HC.out.c1
  have kHD0 := HD.out.c0
  have kHD1 := HD.out.c1
  go_wp2_with fail
  refine (r2.out _).mono ?_
  rintro e u2 ⟨rfl, hbl⟩
  clear kHA0 kHA1 kHC0 kHC1 kHD0 kHD1
  have HB := Kp.mk (HB.out.step hbl)
  have HA := Kp.mk (HA.out.step hbl)
  have HC := Kp.mk (HC.out.step hbl)
  have HD := Kp.mk (HD.out.step hbl)
  clear hbl
  have kHA0 := HA.out.c0
  have kHA1 := HA.out.c1
  have kHC0 := HC.out.c0
  have kHC1 := HC.out.c1
  have kHD0 := HD.out.c0
  have kHD1 := HD.out.c1
  go_wp2_with fail
  refine (r3.out _ HB.out.below).mono ?_
  rintro e u3 ⟨rfl, hbl⟩
  clear kHA0 kHA1 kHC0 kHC1 kHD0 kHD1
  have HB := Kp.mk (HB.out.step hbl)
  have HA := Kp.mk (HA.out.step hbl)
  have HC := Kp.mk (HC.out.step hbl)
  have HD := Kp.mk (HD.out.step hbl)
  clear hbl
  have kHA0 := HA.out.c0
  have kHA1 := HA.out.c1
  have kHC0 := HC.out.c0
  have kHC1 := HC.out.c1
  have kHD0 := HD.out.c0
  have kHD1 := HD.out.c1
  go_wp2_with fail
  refine (r4.out _ HB.out.below).mono ?_
  rintro e u4 ⟨rfl, hbl⟩
  clear kHA0 kHA1 kHC0 kHC1 kHD0 kHD1
  have HB := Kp.mk (HB.out.step hbl)
  have HA := Kp.mk (HA.out.step hbl)
  have HC := Kp.mk (HC.out.step hbl)
  have HD := Kp.mk (HD.out.step hbl)
  clear hbl
  have kHA0 := HA.out.c0
  have kHA1 := HA.out.c1
  have kHC0 := HC.out.c0
  have kHC1 := HC.out.c1
  have kHD0 := HD.out.c0
  have kHD1 := HD.out.c1
  go_upto_region 6 with fail
  have b1 : ∀ o1, Below u4.heap.size u4 (u4.alloc o1).drew := fun o1 => ((Below.refl u4.heap.size u4).alloc (Nat.le_refl _) o1).drew
  have b2 : ∀ o1 o2, Below u4.heap.size u4 ((u4.alloc o1).alloc o2).drew := fun o1 o2 => (((Below.refl u4.heap.size u4).alloc (Nat.le_refl _) o1).alloc (by simp) o2).drew
  have xHA0 : ∀ o1, (u4.alloc o1).drew.cell? ⟨w.heap.size, 0, none⟩ = some (.int .i8 f) := fun o1 => (HA.out.step (b1 o1)).c0
  have yHA0 : ∀ o1 o2, ((u4.alloc o1).alloc o2).drew.cell? ⟨w.heap.size, 0, none⟩ = some (.int .i8 f) := fun o1 o2 => (HA.out.step (b2 o1 o2)).c0
  have xHA1 : ∀ o1, (u4.alloc o1).drew.cell? ⟨w.heap.size, 1, none⟩ = some (.int .i64 d) := fun o1 => (HA.out.step (b1 o1)).c1
  have yHA1 : ∀ o1 o2, ((u4.alloc o1).alloc o2).drew.cell? ⟨w.heap.size, 1, none⟩ = some (.int .i64 d) := fun o1 o2 => (HA.out.step (b2 o1 o2)).c1
  have xHC0 : ∀ o1, (u4.alloc o1).drew.cell? ⟨w.heap.size + 1, 0, none⟩ = some (.int .i8 f) := fun o1 => (HC.out.step (b1 o1)).c0
  have yHC0 : ∀ o1 o2, ((u4.alloc o1).alloc o2).drew.cell? ⟨w.heap.size + 1, 0, none⟩ = some (.int .i8 f) := fun o1 o2 => (HC.out.step (b2 o1 o2)).c0
  have xHC1 : ∀ o1, (u4.alloc o1).drew.cell? ⟨w.heap.size + 1, 1, none⟩ = some (.int .i64 d) := fun o1 => (HC.out.step (b1 o1)).c1
  have yHC1 : ∀ o1 o2, ((u4.alloc o1).alloc o2).drew.cell? ⟨w.heap.size + 1, 1, none⟩ = some (.int .i64 d) := fun o1 o2 => (HC.out.step (b2 o1 o2)).c1
  go_region
  · clear b1 b2 xHA0 yHA0 xHA1 yHA1 xHC0 yHC0 xHC1 yHC1
    clear kHA0 kHA1 kHC0 kHC1 kHD0 kHD1
    have HX := Kp.mk (eb_new f d 24 HB.out.below)
    have hx := eb_new f d 24 HX.out.below
    rw [World.size_alloc] at hx
    have HY := Kp.mk hx
    clear hx
    have HX := Kp.mk (HX.out.step ((Below.refl (u4.alloc (.cells #[.int .i8 f, .int .i64 d] 24)).heap.size _).alloc (Nat.le_refl _) (.cells #[.int .i8 f, .int .i64 d] 24)))
    have hbl := ((Below.refl u4.heap.size u4).alloc (Nat.le_refl _) (.cells #[.int .i8 f, .int .i64 d] 24)).alloc (by simp) (.cells #[.int .i8 f, .int .i64 d] 24)
    have hbl := hbl.drew
    have HX := Kp.mk (HX.out.step (Below.refl ((u4.alloc (.cells #[.int .i8 f, .int .i64 d] 24)).alloc (.cells #[.int .i8 f, .int .i64 d] 24)).heap.size _).drew)
    have HY := Kp.mk (HY.out.step (Below.refl ((u4.alloc (.cells #[.int .i8 f, .int .i64 d] 24)).alloc (.cells #[.int .i8 f, .int .i64 d] 24)).heap.size _).drew)
    have HB := Kp.mk (HB.out.step hbl)
    have HA := Kp.mk (HA.out.step hbl)
    have HC := Kp.mk (HC.out.step hbl)
    have HD := Kp.mk (HD.out.step hbl)
    clear hbl
    generalize (((u4.alloc (.cells #[.int .i8 f, .int .i64 d] 24)).alloc (.cells #[.int .i8 f, .int .i64 d] 24)).drew) = u5 at *
    generalize u4.heap.size = g1 at *
    have kHA0 := HA.out.c0
    have kHA1 := HA.out.c1
    have kHC0 := HC.out.c0
    have kHC1 := HC.out.c1
    have kHD0 := HD.out.c0
    have kHD1 := HD.out.c1
    have kHX0 := HX.out.c0
    have kHX1 := HX.out.c1
    have kHY0 := HY.out.c0
    have kHY1 := HY.out.c1
    go_upto_region 9 with fail
    have hbl := (Below.refl u5.heap.size u5).drew
    have HBz := Kp.mk (HB.out.step hbl)
    have HAz := Kp.mk (HA.out.step hbl)
    have HCz := Kp.mk (HC.out.step hbl)
    have HDz := Kp.mk (HD.out.step hbl)
    have HXz := Kp.mk (HX.out.step hbl)
    have HYz := Kp.mk (HY.out.step hbl)
    have kHA0z := HAz.out.c0
    have kHA1z := HAz.out.c1
    have kHC0z := HCz.out.c0
    have kHC1z := HCz.out.c1
    have kHD0z := HDz.out.c0
    have kHD1z := HDz.out.c1
    have kHX0z := HXz.out.c0
    have kHX1z := HXz.out.c1
    have kHY0z := HYz.out.c0
    have kHY1z := HYz.out.c1
    clear hbl
    go_region_held3 (fun w' => w'.cell? ⟨w.heap.size, 0, none⟩ = some (.int .i8 f) ∧ w'.cell? ⟨w.heap.size, 1, none⟩ = some (.int .i64 d) ∧ w'.cell? ⟨w.heap.size + 1, 0, none⟩ = some (.int .i8 f) ∧ w'.cell? ⟨w.heap.size + 1, 1, none⟩ = some (.int .i64 d) ∧ w'.cell? ⟨w.heap.size + 1 + 1, 0, none⟩ = some (.int .i8 h) ∧ w'.cell? ⟨w.heap.size + 1 + 1, 1, none⟩ = some (.int .i64 i) ∧ w'.cell? ⟨g1, 0, none⟩ = some (.int .i8 f) ∧ w'.cell? ⟨g1, 1, none⟩ = some (.int .i64 d) ∧ w'.cell? ⟨g1 + 1, 0, none⟩ = some (.int .i8 f) ∧ w'.cell? ⟨g1 + 1, 1, none⟩ = some (.int .i64 d)) (first | (with_reducible exact ⟨kHA0, kHA1, kHC0, kHC1, kHD0, kHD1, kHX0, kHX1, kHY0, kHY1⟩) | (with_reducible exact ⟨kHA0z, kHA1z, kHC0z, kHC1z, kHD0z, kHD1z, kHX0z, kHX1z, kHY0z, kHY1z⟩) | (with_reducible exact ⟨kHA0_u6, kHA1_u6, kHC0_u6, kHC1_u6, kHD0_u6, kHD1_u6, kHX0_u6, kHX1_u6, kHY0_u6, kHY1_u6⟩) | (with_reducible exact ⟨kHA0_u7, kHA1_u7, kHC0_u7, kHC1_u7, kHD0_u7, kHD1_u7, kHX0_u7, kHX1_u7, kHY0_u7, kHY1_u7⟩) | (with_reducible exact ⟨kHA0_u8, kHA1_u8, kHC0_u8, kHC1_u8, kHD0_u8, kHD1_u8, kHX0_u8, kHX1_u8, kHY0_u8, kHY1_u8⟩) | go_keep)
      (first
        | (go_at_call 10; (with_reducible show Calls _ _ _ u5.drew _); (with_reducible refine (r6.out _ HBz.out.below).mono ?_); rintro e u6 ⟨rfl, hb⟩; have HB_u6 := Kp.mk (HBz.out.step hb); have HA_u6 := Kp.mk (HAz.out.step hb); have HC_u6 := Kp.mk (HCz.out.step hb); have HD_u6 := Kp.mk (HDz.out.step hb); have HX_u6 := Kp.mk (HXz.out.step hb); have HY_u6 := Kp.mk (HYz.out.step hb); have kHA0_u6 := HA_u6.out.c0; have kHA1_u6 := HA_u6.out.c1; have kHC0_u6 := HC_u6.out.c0; have kHC1_u6 := HC_u6.out.c1; have kHD0_u6 := HD_u6.out.c0; have kHD1_u6 := HD_u6.out.c1; have kHX0_u6 := HX_u6.out.c0; have kHX1_u6 := HX_u6.out.c1; have kHY0_u6 := HY_u6.out.c0; have kHY1_u6 := HY_u6.out.c1; clear hb)
        | (go_at_call 11; (with_reducible show Calls _ _ _ u6 _); (with_reducible refine (r7.out _ HB_u6.out.below).mono ?_); rintro e u7 ⟨rfl, hb⟩; have HB_u7 := Kp.mk (HB_u6.out.step hb); have HA_u7 := Kp.mk (HA_u6.out.step hb); have HC_u7 := Kp.mk (HC_u6.out.step hb); have HD_u7 := Kp.mk (HD_u6.out.step hb); have HX_u7 := Kp.mk (HX_u6.out.step hb); have HY_u7 := Kp.mk (HY_u6.out.step hb); have kHA0_u7 := HA_u7.out.c0; have kHA1_u7 := HA_u7.out.c1; have kHC0_u7 := HC_u7.out.c0; have kHC1_u7 := HC_u7.out.c1; have kHD0_u7 := HD_u7.out.c0; have kHD1_u7 := HD_u7.out.c1; have kHX0_u7 := HX_u7.out.c0; have kHX1_u7 := HX_u7.out.c1; have kHY0_u7 := HY_u7.out.c0; have kHY1_u7 := HY_u7.out.c1; clear hb)
        | (go_at_call 12; (with_reducible show Calls _ _ _ u7 _); (with_reducible refine (rl.out _ HB_u7.out.below).mono ?_); rintro e u8 ⟨rfl, hb⟩; have HB_u8 := Kp.mk (HB_u7.out.step hb); have HA_u8 := Kp.mk (HA_u7.out.step hb); have HC_u8 := Kp.mk (HC_u7.out.step hb); have HD_u8 := Kp.mk (HD_u7.out.step hb); have HX_u8 := Kp.mk (HX_u7.out.step hb); have HY_u8 := Kp.mk (HY_u7.out.step hb); have kHA0_u8 := HA_u8.out.c0; have kHA1_u8 := HA_u8.out.c1; have kHC0_u8 := HC_u8.out.c0; have kHC1_u8 := HC_u8.out.c1; have kHD0_u8 := HD_u8.out.c0; have kHD1_u8 := HD_u8.out.c1; have kHX0_u8 := HX_u8.out.c0; have kHX1_u8 := HX_u8.out.c1; have kHY0_u8 := HY_u8.out.c0; have kHY1_u8 := HY_u8.out.c1; clear hb))
    have HB := HB_u8
    have HA := HA_u8
    have HC := HC_u8
    have HD := HD_u8
    have HX := HX_u8
    have HY := HY_u8
    have kHA0 := HA.out.c0
    have kHA1 := HA.out.c1
    have kHC0 := HC.out.c0
    have kHC1 := HC.out.c1
    have kHD0 := HD.out.c0
    have kHD1 := HD.out.c1
    have kHX0 := HX.out.c0
    have kHX1 := HX.out.c1
    have kHY0 := HY.out.c0
    have kHY1 := HY.out.c1
    go_wp2_with fail
    go_ret
    exact ⟨rfl, HB.out.below⟩
  · clear b1 b2 xHA0 yHA0 xHA1 yHA1 xHC0 yHC0 xHC1 yHC1
    clear kHA0 kHA1 kHC0 kHC1 kHD0 kHD1
    have HY := Kp.mk (eb_new f d 24 HB.out.below)
    have hx := eb_new f d 24 HY.out.below
    rw [World.size_alloc] at hx
    have HX := Kp.mk hx
    clear hx
    have HY := Kp.mk (HY.out.step ((Below.refl (u4.alloc (.cells #[.int .i8 f, .int .i64 d] 24)).heap.size _).alloc (Nat.le_refl _) (.cells #[.int .i8 f, .int .i64 d] 24)))
    have hbl := ((Below.refl u4.heap.size u4).alloc (Nat.le_refl _) (.cells #[.int .i8 f, .int .i64 d] 24)).alloc (by simp) (.cells #[.int .i8 f, .int .i64 d] 24)
    have hbl := hbl.drew
    have HY := Kp.mk (HY.out.step (Below.refl ((u4.alloc (.cells #[.int .i8 f, .int .i64 d] 24)).alloc (.cells #[.int .i8 f, .int .i64 d] 24)).heap.size _).drew)
    have HX := Kp.mk (HX.out.step (Below.refl ((u4.alloc (.cells #[.int .i8 f, .int .i64 d] 24)).alloc (.cells #[.int .i8 f, .int .i64 d] 24)).heap.size _).drew)
    have HB := Kp.mk (HB.out.step hbl)
    have HA := Kp.mk (HA.out.step hbl)
    have HC := Kp.mk (HC.out.step hbl)
    have HD := Kp.mk (HD.out.step hbl)
    clear hbl
    generalize (((u4.alloc (.cells #[.int .i8 f, .int .i64 d] 24)).alloc (.cells #[.int .i8 f, .int .i64 d] 24)).drew) = u5 at *
    generalize u4.heap.size = g1 at *
    have kHA0 := HA.out.c0
    have kHA1 := HA.out.c1
    have kHC0 := HC.out.c0
    have kHC1 := HC.out.c1
    have kHD0 := HD.out.c0
    have kHD1 := HD.out.c1
    have kHY0 := HY.out.c0
    have kHY1 := HY.out.c1
    have kHX0 := HX.out.c0
    have kHX1 := HX.out.c1
    go_upto_region 9 with fail
    have hbl := (Below.refl u5.heap.size u5).drew
    have HBz := Kp.mk (HB.out.step hbl)
    have HAz := Kp.mk (HA.out.step hbl)
    have HCz := Kp.mk (HC.out.step hbl)
    have HDz := Kp.mk (HD.out.step hbl)
    have HYz := Kp.mk (HY.out.step hbl)
    have HXz := Kp.mk (HX.out.step hbl)
    have kHA0z := HAz.out.c0
    have kHA1z := HAz.out.c1
    have kHC0z := HCz.out.c0
    have kHC1z := HCz.out.c1
    have kHD0z := HDz.out.c0
    have kHD1z := HDz.out.c1
    have kHY0z := HYz.out.c0
    have kHY1z := HYz.out.c1
    have kHX0z := HXz.out.c0
    have kHX1z := HXz.out.c1
    clear hbl
    go_region_held3 (fun w' => w'.cell? ⟨w.heap.size, 0, none⟩ = some (.int .i8 f) ∧ w'.cell? ⟨w.heap.size, 1, none⟩ = some (.int .i64 d) ∧ w'.cell? ⟨w.heap.size + 1, 0, none⟩ = some (.int .i8 f) ∧ w'.cell? ⟨w.heap.size + 1, 1, none⟩ = some (.int .i64 d) ∧ w'.cell? ⟨w.heap.size + 1 + 1, 0, none⟩ = some (.int .i8 h) ∧ w'.cell? ⟨w.heap.size + 1 + 1, 1, none⟩ = some (.int .i64 i) ∧ w'.cell? ⟨g1, 0, none⟩ = some (.int .i8 f) ∧ w'.cell? ⟨g1, 1, none⟩ = some (.int .i64 d) ∧ w'.cell? ⟨g1 + 1, 0, none⟩ = some (.int .i8 f) ∧ w'.cell? ⟨g1 + 1, 1, none⟩ = some (.int .i64 d)) (first | (with_reducible exact ⟨kHA0, kHA1, kHC0, kHC1, kHD0, kHD1, kHY0, kHY1, kHX0, kHX1⟩) | (with_reducible exact ⟨kHA0z, kHA1z, kHC0z, kHC1z, kHD0z, kHD1z, kHY0z, kHY1z, kHX0z, kHX1z⟩) | (with_reducible exact ⟨kHA0_u6, kHA1_u6, kHC0_u6, kHC1_u6, kHD0_u6, kHD1_u6, kHY0_u6, kHY1_u6, kHX0_u6, kHX1_u6⟩) | (with_reducible exact ⟨kHA0_u7, kHA1_u7, kHC0_u7, kHC1_u7, kHD0_u7, kHD1_u7, kHY0_u7, kHY1_u7, kHX0_u7, kHX1_u7⟩) | (with_reducible exact ⟨kHA0_u8, kHA1_u8, kHC0_u8, kHC1_u8, kHD0_u8, kHD1_u8, kHY0_u8, kHY1_u8, kHX0_u8, kHX1_u8⟩) | go_keep)
      (first
        | (go_at_call 10; (with_reducible show Calls _ _ _ u5.drew _); (with_reducible refine (r6.out _ HBz.out.below).mono ?_); rintro e u6 ⟨rfl, hb⟩; have HB_u6 := Kp.mk (HBz.out.step hb); have HA_u6 := Kp.mk (HAz.out.step hb); have HC_u6 := Kp.mk (HCz.out.step hb); have HD_u6 := Kp.mk (HDz.out.step hb); have HY_u6 := Kp.mk (HYz.out.step hb); have HX_u6 := Kp.mk (HXz.out.step hb); have kHA0_u6 := HA_u6.out.c0; have kHA1_u6 := HA_u6.out.c1; have kHC0_u6 := HC_u6.out.c0; have kHC1_u6 := HC_u6.out.c1; have kHD0_u6 := HD_u6.out.c0; have kHD1_u6 := HD_u6.out.c1; have kHY0_u6 := HY_u6.out.c0; have kHY1_u6 := HY_u6.out.c1; have kHX0_u6 := HX_u6.out.c0; have kHX1_u6 := HX_u6.out.c1; clear hb)
        | (go_at_call 11; (with_reducible show Calls _ _ _ u6 _); (with_reducible refine (r7.out _ HB_u6.out.below).mono ?_); rintro e u7 ⟨rfl, hb⟩; have HB_u7 := Kp.mk (HB_u6.out.step hb); have HA_u7 := Kp.mk (HA_u6.out.step hb); have HC_u7 := Kp.mk (HC_u6.out.step hb); have HD_u7 := Kp.mk (HD_u6.out.step hb); have HY_u7 := Kp.mk (HY_u6.out.step hb); have HX_u7 := Kp.mk (HX_u6.out.step hb); have kHA0_u7 := HA_u7.out.c0; have kHA1_u7 := HA_u7.out.c1; have kHC0_u7 := HC_u7.out.c0; have kHC1_u7 := HC_u7.out.c1; have kHD0_u7 := HD_u7.out.c0; have kHD1_u7 := HD_u7.out.c1; have kHY0_u7 := HY_u7.out.c0; have kHY1_u7 := HY_u7.out.c1; have kHX0_u7 := HX_u7.out.c0; have kHX1_u7 := HX_u7.out.c1; clear hb)
        | (go_at_call 12; (with_reducible show Calls _ _ _ u7 _); (with_reducible refine (rl.out _ HB_u7.out.below).mono ?_); rintro e u8 ⟨rfl, hb⟩; have HB_u8 := Kp.mk (HB_u7.out.step hb); have HA_u8 := Kp.mk (HA_u7.out.step hb); have HC_u8 := Kp.mk (HC_u7.out.step hb); have HD_u8 := Kp.mk (HD_u7.out.step hb); have HY_u8 := Kp.mk (HY_u7.out.step hb); have HX_u8 := Kp.mk (HX_u7.out.step hb); have kHA0_u8 := HA_u8.out.c0; have kHA1_u8 := HA_u8.out.c1; have kHC0_u8 := HC_u8.out.c0; have kHC1_u8 := HC_u8.out.c1; have kHD0_u8 := HD_u8.out.c0; have kHD1_u8 := HD_u8.out.c1; have kHY0_u8 := HY_u8.out.c0; have kHY1_u8 := HY_u8.out.c1; have kHX0_u8 := HX_u8.out.c0; have kHX1_u8 := HX_u8.out.c1; clear hb))
    have HB := HB_u8
    have HA := HA_u8
    have HC := HC_u8
    have HD := HD_u8
    have HY := HY_u8
    have HX := HX_u8
    have kHA0 := HA.out.c0
    have kHA1 := HA.out.c1
    have kHC0 := HC.out.c0
    have kHC1 := HC.out.c1
    have kHD0 := HD.out.c0
    have kHD1 := HD.out.c1
    have kHY0 := HY.out.c0
    have kHY1 := HY.out.c1
    have kHX0 := HX.out.c0
    have kHX1 := HX.out.c1
    go_wp2_with fail
    go_ret
    exact ⟨rfl, HB.out.below⟩
set_option maxHeartbeats 8000000 in
theorem lawOrder_msl {I : World → Prop} (C : EndFns I) (f d e h i : Int) (w : World) (hI : I w) (d0 : -9223372036854775808 ≤ d) (d1 : d ≤ 9223372036854775807) (e0 : -9223372036854775808 ≤ e) (e1 : e ≤ 9223372036854775807) (i0 : -9223372036854775808 ≤ i) (i1 : i ≤ 9223372036854775807) (hn : cmpE f d f e = -1) (hd : ¬ d = e) (hp : cmpE f e h i ≤ 0) (hq : cmpE f d h i ≤ 0) :
    Calls Tryd.prog 3 #[.agg #[.int .i8 f, .int .i64 d], .agg #[.int .i8 f, .int .i64 e], .agg #[.int .i8 h, .int .i64 i]] w fun x w' => x = .returned (.bool true) ∧ Below w.heap.size w w' := by
  have HA := Kp.mk (eb_three w f d f e h i).1
  have HC := Kp.mk (eb_three w f d f e h i).2.1
  have HD := Kp.mk (eb_three w f d f e h i).2.2
  have HB := Kp.mk (Bl.mk HA.out.below)
  have HI := Kp.mk (fun (v : World) (h : Below w.heap.size w v) => C.keep hI h)
  clear hI
  have rl := Kp.mk (fun v (hw : Below w.heap.size w v) => C.lives v (HI.out v hw))
  have hs : cmpE f e f d = 1 := by rw [cmpE_swap, hn]; rfl
  obtain ⟨p, hp2⟩ : ∃ p, cmpE f e h i = p := ⟨_, rfl⟩
  rw [hp2] at hp
  have tp : decide (p ≤ 0) = true := decide_eq_true hp
  obtain ⟨q, hq2⟩ : ∃ q, cmpE f d h i = q := ⟨_, rfl⟩
  rw [hq2] at hq
  have tq : decide (0 < q) = false := decide_eq_false (by omega)
  have r5 := Kp.mk (fun v (hw : Below w.heap.size w v) => C.cmp v (HI.out v hw) d0 d1 i0 i1 hq2)
  have r1 := Kp.mk (fun v (hw : Below w.heap.size w v) => C.cmp v (HI.out v hw) d0 d1 e0 e1 hn)
  have r2 := Kp.mk (fun w => refECmp_is hn w)
  have r3 := Kp.mk (fun v (hw : Below w.heap.size w v) => C.cmp v (HI.out v hw) e0 e1 d0 d1 hs)
  have r4 := Kp.mk (fun v (hw : Below w.heap.size w v) => C.cmp v (HI.out v hw) e0 e1 i0 i1 hp2)
  have r6 := Kp.mk (fun v (hw : Below w.heap.size w v) => C.min_le (f := f) (g := f) v (HI.out v hw) d0 d1 e0 e1 (by omega))
  have r7 := Kp.mk (fun v (hw : Below w.heap.size w v) => C.max_le (f := f) (g := f) v (HI.out v hw) d0 d1 e0 e1 (by omega))
  have t1 : (d == e) = false := by rw [beq_eq_false_iff_ne]; exact hd
  clear C d0 d1 e0 e1 i0 i1 hn hs hp2 hp hd hq hq2
  go_enter Tryd.func3, Tryd.ntmps3
  go_upto_region 1 with fail
  generalize (((w.alloc (.cells #[.int .i8 f, .int .i64 d] 24)).alloc (.cells #[.int .i8 f, .int .i64 e] 24)).alloc (.cells #[.int .i8 h, .int .i64 i] 24)) = w0 at *
  have kHA0 := HA.out.c0
  have kHA1 := HA.out.c1
  have kHC0 := HC.out.c0
  have kHC1 := HC.out.c1
  have kHD0 := HD.out.c0
  have kHD1 := HD.out.c1
  go_wp2_with fail
  refine (r1.out _ HB.out.below).mono ?_
  rintro e u1 ⟨rfl, hbl⟩
  clear kHA0 kHA1 kHC0 kHC1 kHD0 kHD1
  have HB := Kp.mk (HB.out.step hbl)
  have HA := Kp.mk (HA.out.step hbl)
  have HC := Kp.mk (HC.out.step hbl)
  have HD := Kp.mk (HD.out.step hbl)
  clear hbl
  have kHA0 := HA.out.c0
  have kHA1 := HA.out.c1
  have kHC0 := HC.out.c0
  have kHC1 := HC.out.c1
  have kHD0 := HD.out.c0
  have kHD1 := HD.out.c1
  go_wp2_with fail
  refine (r2.out _).mono ?_
  rintro e u2 ⟨rfl, hbl⟩
  clear kHA0 kHA1 kHC0 kHC1 kHD0 kHD1
  have HB := Kp.mk (HB.out.step hbl)
  have HA := Kp.mk (HA.out.step hbl)
  have HC := Kp.mk (HC.out.step hbl)
  have HD := Kp.mk (HD.out.step hbl)
  clear hbl
  have kHA0 := HA.out.c0
  have kHA1 := HA.out.c1
  have kHC0 := HC.out.c0
  have kHC1 := HC.out.c1
  have kHD0 := HD.out.c0
  have kHD1 := HD.out.c1
  go_wp2_with fail
  refine (r3.out _ HB.out.below).mono ?_
  rintro e u3 ⟨rfl, hbl⟩
  clear kHA0 kHA1 kHC0 kHC1 kHD0 kHD1
  have HB := Kp.mk (HB.out.step hbl)
  have HA := Kp.mk (HA.out.step hbl)
  have HC := Kp.mk (HC.out.step hbl)
  have HD := Kp.mk (HD.out.step hbl)
  clear hbl
  have kHA0 := HA.out.c0
  have kHA1 := HA.out.c1
  have kHC0 := HC.out.c0
  have kHC1 := HC.out.c1
  have kHD0 := HD.out.c0
  have kHD1 := HD.out.c1
  go_wp2_with fail
  refine (r4.out _ HB.out.below).mono ?_
  rintro e u4 ⟨rfl, hbl⟩
  clear kHA0 kHA1 kHC0 kHC1 kHD0 kHD1
  have HB := Kp.mk (HB.out.step hbl)
  have HA := Kp.mk (HA.out.step hbl)
  have HC := Kp.mk (HC.out.step hbl)
  have HD := Kp.mk (HD.out.step hbl)
  clear hbl
  have kHA0 := HA.out.c0
  have kHA1 := HA.out.c1
  have kHC0 := HC.out.c0
  have kHC1 := HC.out.c1
  have kHD0 := HD.out.c0
  have kHD1 := HD.out.c1
  go_wp2_with fail
  refine (r5.out _ HB.out.below).mono ?_
  rintro e u5 ⟨rfl, hbl⟩
  clear kHA0 kHA1 kHC0 kHC1 kHD0 kHD1
  have HB := Kp.mk (HB.out.step hbl)
  have HA := Kp.mk (HA.out.step hbl)
  have HC := Kp.mk (HC.out.step hbl)
  have HD := Kp.mk (HD.out.step hbl)
  clear hbl
  have kHA0 := HA.out.c0
  have kHA1 := HA.out.c1
  have kHC0 := HC.out.c0
  have kHC1 := HC.out.c1
  have kHD0 := HD.out.c0
  have kHD1 := HD.out.c1
  go_upto_region 6 with fail
  have b1 : ∀ o1, Below u5.heap.size u5 (u5.alloc o1).drew := fun o1 => ((Below.refl u5.heap.size u5).alloc (Nat.le_refl _) o1).drew
  have b2 : ∀ o1 o2, Below u5.heap.size u5 ((u5.alloc o1).alloc o2).drew := fun o1 o2 => (((Below.refl u5.heap.size u5).alloc (Nat.le_refl _) o1).alloc (by simp) o2).drew
  have xHA0 : ∀ o1, (u5.alloc o1).drew.cell? ⟨w.heap.size, 0, none⟩ = some (.int .i8 f) := fun o1 => (HA.out.step (b1 o1)).c0
  have yHA0 : ∀ o1 o2, ((u5.alloc o1).alloc o2).drew.cell? ⟨w.heap.size, 0, none⟩ = some (.int .i8 f) := fun o1 o2 => (HA.out.step (b2 o1 o2)).c0
  have xHA1 : ∀ o1, (u5.alloc o1).drew.cell? ⟨w.heap.size, 1, none⟩ = some (.int .i64 d) := fun o1 => (HA.out.step (b1 o1)).c1
  have yHA1 : ∀ o1 o2, ((u5.alloc o1).alloc o2).drew.cell? ⟨w.heap.size, 1, none⟩ = some (.int .i64 d) := fun o1 o2 => (HA.out.step (b2 o1 o2)).c1
  have xHC0 : ∀ o1, (u5.alloc o1).drew.cell? ⟨w.heap.size + 1, 0, none⟩ = some (.int .i8 f) := fun o1 => (HC.out.step (b1 o1)).c0
  have yHC0 : ∀ o1 o2, ((u5.alloc o1).alloc o2).drew.cell? ⟨w.heap.size + 1, 0, none⟩ = some (.int .i8 f) := fun o1 o2 => (HC.out.step (b2 o1 o2)).c0
  have xHC1 : ∀ o1, (u5.alloc o1).drew.cell? ⟨w.heap.size + 1, 1, none⟩ = some (.int .i64 e) := fun o1 => (HC.out.step (b1 o1)).c1
  have yHC1 : ∀ o1 o2, ((u5.alloc o1).alloc o2).drew.cell? ⟨w.heap.size + 1, 1, none⟩ = some (.int .i64 e) := fun o1 o2 => (HC.out.step (b2 o1 o2)).c1
  go_region
  · clear b1 b2 xHA0 yHA0 xHA1 yHA1 xHC0 yHC0 xHC1 yHC1
    clear kHA0 kHA1 kHC0 kHC1 kHD0 kHD1
    have HX := Kp.mk (eb_new f d 24 HB.out.below)
    have hx := eb_new f e 24 HX.out.below
    rw [World.size_alloc] at hx
    have HY := Kp.mk hx
    clear hx
    have HX := Kp.mk (HX.out.step ((Below.refl (u5.alloc (.cells #[.int .i8 f, .int .i64 d] 24)).heap.size _).alloc (Nat.le_refl _) (.cells #[.int .i8 f, .int .i64 e] 24)))
    have hbl := ((Below.refl u5.heap.size u5).alloc (Nat.le_refl _) (.cells #[.int .i8 f, .int .i64 d] 24)).alloc (by simp) (.cells #[.int .i8 f, .int .i64 e] 24)
    have hbl := hbl.drew
    have HX := Kp.mk (HX.out.step (Below.refl ((u5.alloc (.cells #[.int .i8 f, .int .i64 d] 24)).alloc (.cells #[.int .i8 f, .int .i64 e] 24)).heap.size _).drew)
    have HY := Kp.mk (HY.out.step (Below.refl ((u5.alloc (.cells #[.int .i8 f, .int .i64 d] 24)).alloc (.cells #[.int .i8 f, .int .i64 e] 24)).heap.size _).drew)
    have HB := Kp.mk (HB.out.step hbl)
    have HA := Kp.mk (HA.out.step hbl)
    have HC := Kp.mk (HC.out.step hbl)
    have HD := Kp.mk (HD.out.step hbl)
    clear hbl
    generalize (((u5.alloc (.cells #[.int .i8 f, .int .i64 d] 24)).alloc (.cells #[.int .i8 f, .int .i64 e] 24)).drew) = u6 at *
    generalize u5.heap.size = g1 at *
    have kHA0 := HA.out.c0
    have kHA1 := HA.out.c1
    have kHC0 := HC.out.c0
    have kHC1 := HC.out.c1
    have kHD0 := HD.out.c0
    have kHD1 := HD.out.c1
    have kHX0 := HX.out.c0
    have kHX1 := HX.out.c1
    have kHY0 := HY.out.c0
    have kHY1 := HY.out.c1
    go_upto_region 9 with fail
    have hbl := (Below.refl u6.heap.size u6).drew
    have HBz := Kp.mk (HB.out.step hbl)
    have HAz := Kp.mk (HA.out.step hbl)
    have HCz := Kp.mk (HC.out.step hbl)
    have HDz := Kp.mk (HD.out.step hbl)
    have HXz := Kp.mk (HX.out.step hbl)
    have HYz := Kp.mk (HY.out.step hbl)
    have kHA0z := HAz.out.c0
    have kHA1z := HAz.out.c1
    have kHC0z := HCz.out.c0
    have kHC1z := HCz.out.c1
    have kHD0z := HDz.out.c0
    have kHD1z := HDz.out.c1
    have kHX0z := HXz.out.c0
    have kHX1z := HXz.out.c1
    have kHY0z := HYz.out.c0
    have kHY1z := HYz.out.c1
    clear hbl
    go_region_held3 (fun w' => w'.cell? ⟨w.heap.size, 0, none⟩ = some (.int .i8 f) ∧ w'.cell? ⟨w.heap.size, 1, none⟩ = some (.int .i64 d) ∧ w'.cell? ⟨w.heap.size + 1, 0, none⟩ = some (.int .i8 f) ∧ w'.cell? ⟨w.heap.size + 1, 1, none⟩ = some (.int .i64 e) ∧ w'.cell? ⟨w.heap.size + 1 + 1, 0, none⟩ = some (.int .i8 h) ∧ w'.cell? ⟨w.heap.size + 1 + 1, 1, none⟩ = some (.int .i64 i) ∧ w'.cell? ⟨g1, 0, none⟩ = some (.int .i8 f) ∧ w'.cell? ⟨g1, 1, none⟩ = some (.int .i64 d) ∧ w'.cell? ⟨g1 + 1, 0, none⟩ = some (.int .i8 f) ∧ w'.cell? ⟨g1 + 1, 1, none⟩ = some (.int .i64 e)) (first | (with_reducible exact ⟨kHA0, kHA1, kHC0, kHC1, kHD0, kHD1, kHX0, kHX1, kHY0, kHY1⟩) | (with_reducible exact ⟨kHA0z, kHA1z, kHC0z, kHC1z, kHD0z, kHD1z, kHX0z, kHX1z, kHY0z, kHY1z⟩) | (with_reducible exact ⟨kHA0_u7, kHA1_u7, kHC0_u7, kHC1_u7, kHD0_u7, kHD1_u7, kHX0_u7, kHX1_u7, kHY0_u7, kHY1_u7⟩) | (with_reducible exact ⟨kHA0_u8, kHA1_u8, kHC0_u8, kHC1_u8, kHD0_u8, kHD1_u8, kHX0_u8, kHX1_u8, kHY0_u8, kHY1_u8⟩) | (with_reducible exact ⟨kHA0_u9, kHA1_u9, kHC0_u9, kHC1_u9, kHD0_u9, kHD1_u9, kHX0_u9, kHX1_u9, kHY0_u9, kHY1_u9⟩) | go_keep)
      (first
        | (go_at_call 10; (with_reducible show Calls _ _ _ u6.drew _); (with_reducible refine (r6.out _ HBz.out.below).mono ?_); rintro e u7 ⟨rfl, hb⟩; have HB_u7 := Kp.mk (HBz.out.step hb); have HA_u7 := Kp.mk (HAz.out.step hb); have HC_u7 := Kp.mk (HCz.out.step hb); have HD_u7 := Kp.mk (HDz.out.step hb); have HX_u7 := Kp.mk (HXz.out.step hb); have HY_u7 := Kp.mk (HYz.out.step hb); have kHA0_u7 := HA_u7.out.c0; have kHA1_u7 := HA_u7.out.c1; have kHC0_u7 := HC_u7.out.c0; have kHC1_u7 := HC_u7.out.c1; have kHD0_u7 := HD_u7.out.c0; have kHD1_u7 := HD_u7.out.c1; have kHX0_u7 := HX_u7.out.c0; have kHX1_u7 := HX_u7.out.c1; have kHY0_u7 := HY_u7.out.c0; have kHY1_u7 := HY_u7.out.c1; clear hb)
        | (go_at_call 11; (with_reducible show Calls _ _ _ u7 _); (with_reducible refine (r7.out _ HB_u7.out.below).mono ?_); rintro e u8 ⟨rfl, hb⟩; have HB_u8 := Kp.mk (HB_u7.out.step hb); have HA_u8 := Kp.mk (HA_u7.out.step hb); have HC_u8 := Kp.mk (HC_u7.out.step hb); have HD_u8 := Kp.mk (HD_u7.out.step hb); have HX_u8 := Kp.mk (HX_u7.out.step hb); have HY_u8 := Kp.mk (HY_u7.out.step hb); have kHA0_u8 := HA_u8.out.c0; have kHA1_u8 := HA_u8.out.c1; have kHC0_u8 := HC_u8.out.c0; have kHC1_u8 := HC_u8.out.c1; have kHD0_u8 := HD_u8.out.c0; have kHD1_u8 := HD_u8.out.c1; have kHX0_u8 := HX_u8.out.c0; have kHX1_u8 := HX_u8.out.c1; have kHY0_u8 := HY_u8.out.c0; have kHY1_u8 := HY_u8.out.c1; clear hb)
        | (go_at_call 12; (with_reducible show Calls _ _ _ u8 _); (with_reducible refine (rl.out _ HB_u8.out.below).mono ?_); rintro e u9 ⟨rfl, hb⟩; have HB_u9 := Kp.mk (HB_u8.out.step hb); have HA_u9 := Kp.mk (HA_u8.out.step hb); have HC_u9 := Kp.mk (HC_u8.out.step hb); have HD_u9 := Kp.mk (HD_u8.out.step hb); have HX_u9 := Kp.mk (HX_u8.out.step hb); have HY_u9 := Kp.mk (HY_u8.out.step hb); have kHA0_u9 := HA_u9.out.c0; have kHA1_u9 := HA_u9.out.c1; have kHC0_u9 := HC_u9.out.c0; have kHC1_u9 := HC_u9.out.c1; have kHD0_u9 := HD_u9.out.c0; have kHD1_u9 := HD_u9.out.c1; have kHX0_u9 := HX_u9.out.c0; have kHX1_u9 := HX_u9.out.c1; have kHY0_u9 := HY_u9.out.c0; have kHY1_u9 := HY_u9.out.c1; clear hb))
    have HB := HB_u9
    have HA := HA_u9
    have HC := HC_u9
    have HD := HD_u9
    have HX := HX_u9
    have HY := HY_u9
    have kHA0 := HA.out.c0
    have kHA1 := HA.out.c1
    have kHC0 := HC.out.c0
    have kHC1 := HC.out.c1
    have kHD0 := HD.out.c0
    have kHD1 := HD.out.c1
    have kHX0 := HX.out.c0
    have kHX1 := HX.out.c1
    have kHY0 := HY.out.c0
    have kHY1 := HY.out.c1
    go_wp2_with fail
    go_ret
    exact ⟨rfl, HB.out.below⟩
  · clear b1 b2 xHA0 yHA0 xHA1 yHA1 xHC0 yHC0 xHC1 yHC1
    clear kHA0 kHA1 kHC0 kHC1 kHD0 kHD1
    have HY := Kp.mk (eb_new f e 24 HB.out.below)
    have hx := eb_new f d 24 HY.out.below
    rw [World.size_alloc] at hx
    have HX := Kp.mk hx
    clear hx
    have HY := Kp.mk (HY.out.step ((Below.refl (u5.alloc (.cells #[.int .i8 f, .int .i64 e] 24)).heap.size _).alloc (Nat.le_refl _) (.cells #[.int .i8 f, .int .i64 d] 24)))
    have hbl := ((Below.refl u5.heap.size u5).alloc (Nat.le_refl _) (.cells #[.int .i8 f, .int .i64 e] 24)).alloc (by simp) (.cells #[.int .i8 f, .int .i64 d] 24)
    have hbl := hbl.drew
    have HY := Kp.mk (HY.out.step (Below.refl ((u5.alloc (.cells #[.int .i8 f, .int .i64 e] 24)).alloc (.cells #[.int .i8 f, .int .i64 d] 24)).heap.size _).drew)
    have HX := Kp.mk (HX.out.step (Below.refl ((u5.alloc (.cells #[.int .i8 f, .int .i64 e] 24)).alloc (.cells #[.int .i8 f, .int .i64 d] 24)).heap.size _).drew)
    have HB := Kp.mk (HB.out.step hbl)
    have HA := Kp.mk (HA.out.step hbl)
    have HC := Kp.mk (HC.out.step hbl)
    have HD := Kp.mk (HD.out.step hbl)
    clear hbl
    generalize (((u5.alloc (.cells #[.int .i8 f, .int .i64 e] 24)).alloc (.cells #[.int .i8 f, .int .i64 d] 24)).drew) = u6 at *
    generalize u5.heap.size = g1 at *
    have kHA0 := HA.out.c0
    have kHA1 := HA.out.c1
    have kHC0 := HC.out.c0
    have kHC1 := HC.out.c1
    have kHD0 := HD.out.c0
    have kHD1 := HD.out.c1
    have kHY0 := HY.out.c0
    have kHY1 := HY.out.c1
    have kHX0 := HX.out.c0
    have kHX1 := HX.out.c1
    go_upto_region 9 with fail
    have hbl := (Below.refl u6.heap.size u6).drew
    have HBz := Kp.mk (HB.out.step hbl)
    have HAz := Kp.mk (HA.out.step hbl)
    have HCz := Kp.mk (HC.out.step hbl)
    have HDz := Kp.mk (HD.out.step hbl)
    have HYz := Kp.mk (HY.out.step hbl)
    have HXz := Kp.mk (HX.out.step hbl)
    have kHA0z := HAz.out.c0
    have kHA1z := HAz.out.c1
    have kHC0z := HCz.out.c0
    have kHC1z := HCz.out.c1
    have kHD0z := HDz.out.c0
    have kHD1z := HDz.out.c1
    have kHY0z := HYz.out.c0
    have kHY1z := HYz.out.c1
    have kHX0z := HXz.out.c0
    have kHX1z := HXz.out.c1
    clear hbl
    go_region_held3 (fun w' => w'.cell? ⟨w.heap.size, 0, none⟩ = some (.int .i8 f) ∧ w'.cell? ⟨w.heap.size, 1, none⟩ = some (.int .i64 d) ∧ w'.cell? ⟨w.heap.size + 1, 0, none⟩ = some (.int .i8 f) ∧ w'.cell? ⟨w.heap.size + 1, 1, none⟩ = some (.int .i64 e) ∧ w'.cell? ⟨w.heap.size + 1 + 1, 0, none⟩ = some (.int .i8 h) ∧ w'.cell? ⟨w.heap.size + 1 + 1, 1, none⟩ = some (.int .i64 i) ∧ w'.cell? ⟨g1, 0, none⟩ = some (.int .i8 f) ∧ w'.cell? ⟨g1, 1, none⟩ = some (.int .i64 e) ∧ w'.cell? ⟨g1 + 1, 0, none⟩ = some (.int .i8 f) ∧ w'.cell? ⟨g1 + 1, 1, none⟩ = some (.int .i64 d)) (first | (with_reducible exact ⟨kHA0, kHA1, kHC0, kHC1, kHD0, kHD1, kHY0, kHY1, kHX0, kHX1⟩) | (with_reducible exact ⟨kHA0z, kHA1z, kHC0z, kHC1z, kHD0z, kHD1z, kHY0z, kHY1z, kHX0z, kHX1z⟩) | (with_reducible exact ⟨kHA0_u7, kHA1_u7, kHC0_u7, kHC1_u7, kHD0_u7, kHD1_u7, kHY0_u7, kHY1_u7, kHX0_u7, kHX1_u7⟩) | (with_reducible exact ⟨kHA0_u8, kHA1_u8, kHC0_u8, kHC1_u8, kHD0_u8, kHD1_u8, kHY0_u8, kHY1_u8, kHX0_u8, kHX1_u8⟩) | (with_reducible exact ⟨kHA0_u9, kHA1_u9, kHC0_u9, kHC1_u9, kHD0_u9, kHD1_u9, kHY0_u9, kHY1_u9, kHX0_u9, kHX1_u9⟩) | go_keep)
      (first
        | (go_at_call 10; (with_reducible show Calls _ _ _ u6.drew _); (with_reducible refine (r6.out _ HBz.out.below).mono ?_); rintro e u7 ⟨rfl, hb⟩; have HB_u7 := Kp.mk (HBz.out.step hb); have HA_u7 := Kp.mk (HAz.out.step hb); have HC_u7 := Kp.mk (HCz.out.step hb); have HD_u7 := Kp.mk (HDz.out.step hb); have HY_u7 := Kp.mk (HYz.out.step hb); have HX_u7 := Kp.mk (HXz.out.step hb); have kHA0_u7 := HA_u7.out.c0; have kHA1_u7 := HA_u7.out.c1; have kHC0_u7 := HC_u7.out.c0; have kHC1_u7 := HC_u7.out.c1; have kHD0_u7 := HD_u7.out.c0; have kHD1_u7 := HD_u7.out.c1; have kHY0_u7 := HY_u7.out.c0; have kHY1_u7 := HY_u7.out.c1; have kHX0_u7 := HX_u7.out.c0; have kHX1_u7 := HX_u7.out.c1; clear hb)
        | (go_at_call 11; (with_reducible show Calls _ _ _ u7 _); (with_reducible refine (r7.out _ HB_u7.out.below).mono ?_); rintro e u8 ⟨rfl, hb⟩; have HB_u8 := Kp.mk (HB_u7.out.step hb); have HA_u8 := Kp.mk (HA_u7.out.step hb); have HC_u8 := Kp.mk (HC_u7.out.step hb); have HD_u8 := Kp.mk (HD_u7.out.step hb); have HY_u8 := Kp.mk (HY_u7.out.step hb); have HX_u8 := Kp.mk (HX_u7.out.step hb); have kHA0_u8 := HA_u8.out.c0; have kHA1_u8 := HA_u8.out.c1; have kHC0_u8 := HC_u8.out.c0; have kHC1_u8 := HC_u8.out.c1; have kHD0_u8 := HD_u8.out.c0; have kHD1_u8 := HD_u8.out.c1; have kHY0_u8 := HY_u8.out.c0; have kHY1_u8 := HY_u8.out.c1; have kHX0_u8 := HX_u8.out.c0; have kHX1_u8 := HX_u8.out.c1; clear hb)
        | (go_at_call 12; (with_reducible show Calls _ _ _ u8 _); (with_reducible refine (rl.out _ HB_u8.out.below).mono ?_); rintro e u9 ⟨rfl, hb⟩; have HB_u9 := Kp.mk (HB_u8.out.step hb); have HA_u9 := Kp.mk (HA_u8.out.step hb); have HC_u9 := Kp.mk (HC_u8.out.step hb); have HD_u9 := Kp.mk (HD_u8.out.step hb); have HY_u9 := Kp.mk (HY_u8.out.step hb); have HX_u9 := Kp.mk (HX_u8.out.step hb); have kHA0_u9 := HA_u9.out.c0; have kHA1_u9 := HA_u9.out.c1; have kHC0_u9 := HC_u9.out.c0; have kHC1_u9 := HC_u9.out.c1; have kHD0_u9 := HD_u9.out.c0; have kHD1_u9 := HD_u9.out.c1; have kHY0_u9 := HY_u9.out.c0; have kHY1_u9 := HY_u9.out.c1; have kHX0_u9 := HX_u9.out.c0; have kHX1_u9 := HX_u9.out.c1; clear hb))
    have HB := HB_u9
    have HA := HA_u9
    have HC := HC_u9
    have HD := HD_u9
    have HY := HY_u9
    have HX := HX_u9
    have kHA0 := HA.out.c0
    have kHA1 := HA.out.c1
    have kHC0 := HC.out.c0
    have kHC1 := HC.out.c1
    have kHD0 := HD.out.c0
    have kHD1 := HD.out.c1
    have kHY0 := HY.out.c0
    have kHY1 := HY.out.c1
    have kHX0 := HX.out.c0
    have kHX1 := HX.out.c1
    go_wp2_with fail
    go_ret
    exact ⟨rfl, HB.out.below⟩
set_option maxHeartbeats 8000000 in
theorem lawOrder_msg {I : World → Prop} (C : EndFns I) (f d e h i : Int) (w : World) (hI : I w) (d0 : -9223372036854775808 ≤ d) (d1 : d ≤ 9223372036854775807) (e0 : -9223372036854775808 ≤ e) (e1 : e ≤ 9223372036854775807) (i0 : -9223372036854775808 ≤ i) (i1 : i ≤ 9223372036854775807) (hn : cmpE f d f e = -1) (hd : ¬ d = e) (hp : ¬ cmpE f e h i ≤ 0) :
    Calls Tryd.prog 3 #[.agg #[.int .i8 f, .int .i64 d], .agg #[.int .i8 f, .int .i64 e], .agg #[.int .i8 h, .int .i64 i]] w fun x w' => x = .returned (.bool true) ∧ Below w.heap.size w w' := by
  have HA := Kp.mk (eb_three w f d f e h i).1
  have HC := Kp.mk (eb_three w f d f e h i).2.1
  have HD := Kp.mk (eb_three w f d f e h i).2.2
  have HB := Kp.mk (Bl.mk HA.out.below)
  have HI := Kp.mk (fun (v : World) (h : Below w.heap.size w v) => C.keep hI h)
  clear hI
  have rl := Kp.mk (fun v (hw : Below w.heap.size w v) => C.lives v (HI.out v hw))
  have hs : cmpE f e f d = 1 := by rw [cmpE_swap, hn]; rfl
  obtain ⟨p, hp2⟩ : ∃ p, cmpE f e h i = p := ⟨_, rfl⟩
  rw [hp2] at hp
  have tp : decide (p ≤ 0) = false := decide_eq_false hp
  have r1 := Kp.mk (fun v (hw : Below w.heap.size w v) => C.cmp v (HI.out v hw) d0 d1 e0 e1 hn)
  have r2 := Kp.mk (fun w => refECmp_is hn w)
  have r3 := Kp.mk (fun v (hw : Below w.heap.size w v) => C.cmp v (HI.out v hw) e0 e1 d0 d1 hs)
  have r4 := Kp.mk (fun v (hw : Below w.heap.size w v) => C.cmp v (HI.out v hw) e0 e1 i0 i1 hp2)
  have r6 := Kp.mk (fun v (hw : Below w.heap.size w v) => C.min_le (f := f) (g := f) v (HI.out v hw) d0 d1 e0 e1 (by omega))
  have r7 := Kp.mk (fun v (hw : Below w.heap.size w v) => C.max_le (f := f) (g := f) v (HI.out v hw) d0 d1 e0 e1 (by omega))
  have t1 : (d == e) = false := by rw [beq_eq_false_iff_ne]; exact hd
  clear C d0 d1 e0 e1 i0 i1 hn hs hp2 hp hd
  go_enter Tryd.func3, Tryd.ntmps3
  go_upto_region 1 with fail
  generalize (((w.alloc (.cells #[.int .i8 f, .int .i64 d] 24)).alloc (.cells #[.int .i8 f, .int .i64 e] 24)).alloc (.cells #[.int .i8 h, .int .i64 i] 24)) = w0 at *
  have kHA0 := HA.out.c0
  have kHA1 := HA.out.c1
  have kHC0 := HC.out.c0
  have kHC1 := HC.out.c1
  have kHD0 := HD.out.c0
  have kHD1 := HD.out.c1
  go_wp2_with fail
  refine (r1.out _ HB.out.below).mono ?_
  rintro e u1 ⟨rfl, hbl⟩
  clear kHA0 kHA1 kHC0 kHC1 kHD0 kHD1
  have HB := Kp.mk (HB.out.step hbl)
  have HA := Kp.mk (HA.out.step hbl)
  have HC := Kp.mk (HC.out.step hbl)
  have HD := Kp.mk (HD.out.step hbl)
  clear hbl
  have kHA0 := HA.out.c0
  have kHA1 := HA.out.c1
  have kHC0 := HC.out.c0
  have kHC1 := HC.out.c1
  have kHD0 := HD.out.c0
  have kHD1 := HD.out.c1
  go_wp2_with fail
  refine (r2.out _).mono ?_
  rintro e u2 ⟨rfl, hbl⟩
  clear kHA0 kHA1 kHC0 kHC1 kHD0 kHD1
  have HB := Kp.mk (HB.out.step hbl)
  have HA := Kp.mk (HA.out.step hbl)
  have HC := Kp.mk (HC.out.step hbl)
  have HD := Kp.mk (HD.out.step hbl)
  clear hbl
  have kHA0 := HA.out.c0
  have kHA1 := HA.out.c1
  have kHC0 := HC.out.c0
  have kHC1 := HC.out.c1
  have kHD0 := HD.out.c0
  have kHD1 := HD.out.c1
  go_wp2_with fail
  refine (r3.out _ HB.out.below).mono ?_
  rintro e u3 ⟨rfl, hbl⟩
  clear kHA0 kHA1 kHC0 kHC1 kHD0 kHD1
  have HB := Kp.mk (HB.out.step hbl)
  have HA := Kp.mk (HA.out.step hbl)
  have HC := Kp.mk (HC.out.step hbl)
  have HD := Kp.mk (HD.out.step hbl)
  clear hbl
  have kHA0 := HA.out.c0
  have kHA1 := HA.out.c1
  have kHC0 := HC.out.c0
  have kHC1 := HC.out.c1
  have kHD0 := HD.out.c0
  have kHD1 := HD.out.c1
  go_wp2_with fail
  refine (r4.out _ HB.out.below).mono ?_
  rintro e u4 ⟨rfl, hbl⟩
  clear kHA0 kHA1 kHC0 kHC1 kHD0 kHD1
  have HB := Kp.mk (HB.out.step hbl)
  have HA := Kp.mk (HA.out.step hbl)
  have HC := Kp.mk (HC.out.step hbl)
  have HD := Kp.mk (HD.out.step hbl)
  clear hbl
  have kHA0 := HA.out.c0
  have kHA1 := HA.out.c1
  have kHC0 := HC.out.c0
  have kHC1 := HC.out.c1
  have kHD0 := HD.out.c0
  have kHD1 := HD.out.c1
  go_upto_region 6 with fail
  have b1 : ∀ o1, Below u4.heap.size u4 (u4.alloc o1).drew := fun o1 => ((Below.refl u4.heap.size u4).alloc (Nat.le_refl _) o1).drew
  have b2 : ∀ o1 o2, Below u4.heap.size u4 ((u4.alloc o1).alloc o2).drew := fun o1 o2 => (((Below.refl u4.heap.size u4).alloc (Nat.le_refl _) o1).alloc (by simp) o2).drew
  have xHA0 : ∀ o1, (u4.alloc o1).drew.cell? ⟨w.heap.size, 0, none⟩ = some (.int .i8 f) := fun o1 => (HA.out.step (b1 o1)).c0
  have yHA0 : ∀ o1 o2, ((u4.alloc o1).alloc o2).drew.cell? ⟨w.heap.size, 0, none⟩ = some (.int .i8 f) := fun o1 o2 => (HA.out.step (b2 o1 o2)).c0
  have xHA1 : ∀ o1, (u4.alloc o1).drew.cell? ⟨w.heap.size, 1, none⟩ = some (.int .i64 d) := fun o1 => (HA.out.step (b1 o1)).c1
  have yHA1 : ∀ o1 o2, ((u4.alloc o1).alloc o2).drew.cell? ⟨w.heap.size, 1, none⟩ = some (.int .i64 d) := fun o1 o2 => (HA.out.step (b2 o1 o2)).c1
  have xHC0 : ∀ o1, (u4.alloc o1).drew.cell? ⟨w.heap.size + 1, 0, none⟩ = some (.int .i8 f) := fun o1 => (HC.out.step (b1 o1)).c0
  have yHC0 : ∀ o1 o2, ((u4.alloc o1).alloc o2).drew.cell? ⟨w.heap.size + 1, 0, none⟩ = some (.int .i8 f) := fun o1 o2 => (HC.out.step (b2 o1 o2)).c0
  have xHC1 : ∀ o1, (u4.alloc o1).drew.cell? ⟨w.heap.size + 1, 1, none⟩ = some (.int .i64 e) := fun o1 => (HC.out.step (b1 o1)).c1
  have yHC1 : ∀ o1 o2, ((u4.alloc o1).alloc o2).drew.cell? ⟨w.heap.size + 1, 1, none⟩ = some (.int .i64 e) := fun o1 o2 => (HC.out.step (b2 o1 o2)).c1
  go_region
  · clear b1 b2 xHA0 yHA0 xHA1 yHA1 xHC0 yHC0 xHC1 yHC1
    clear kHA0 kHA1 kHC0 kHC1 kHD0 kHD1
    have HX := Kp.mk (eb_new f d 24 HB.out.below)
    have hx := eb_new f e 24 HX.out.below
    rw [World.size_alloc] at hx
    have HY := Kp.mk hx
    clear hx
    have HX := Kp.mk (HX.out.step ((Below.refl (u4.alloc (.cells #[.int .i8 f, .int .i64 d] 24)).heap.size _).alloc (Nat.le_refl _) (.cells #[.int .i8 f, .int .i64 e] 24)))
    have hbl := ((Below.refl u4.heap.size u4).alloc (Nat.le_refl _) (.cells #[.int .i8 f, .int .i64 d] 24)).alloc (by simp) (.cells #[.int .i8 f, .int .i64 e] 24)
    have hbl := hbl.drew
    have HX := Kp.mk (HX.out.step (Below.refl ((u4.alloc (.cells #[.int .i8 f, .int .i64 d] 24)).alloc (.cells #[.int .i8 f, .int .i64 e] 24)).heap.size _).drew)
    have HY := Kp.mk (HY.out.step (Below.refl ((u4.alloc (.cells #[.int .i8 f, .int .i64 d] 24)).alloc (.cells #[.int .i8 f, .int .i64 e] 24)).heap.size _).drew)
    have HB := Kp.mk (HB.out.step hbl)
    have HA := Kp.mk (HA.out.step hbl)
    have HC := Kp.mk (HC.out.step hbl)
    have HD := Kp.mk (HD.out.step hbl)
    clear hbl
    generalize (((u4.alloc (.cells #[.int .i8 f, .int .i64 d] 24)).alloc (.cells #[.int .i8 f, .int .i64 e] 24)).drew) = u5 at *
    generalize u4.heap.size = g1 at *
    have kHA0 := HA.out.c0
    have kHA1 := HA.out.c1
    have kHC0 := HC.out.c0
    have kHC1 := HC.out.c1
    have kHD0 := HD.out.c0
    have kHD1 := HD.out.c1
    have kHX0 := HX.out.c0
    have kHX1 := HX.out.c1
    have kHY0 := HY.out.c0
    have kHY1 := HY.out.c1
    go_upto_region 9 with fail
    have hbl := (Below.refl u5.heap.size u5).drew
    have HBz := Kp.mk (HB.out.step hbl)
    have HAz := Kp.mk (HA.out.step hbl)
    have HCz := Kp.mk (HC.out.step hbl)
    have HDz := Kp.mk (HD.out.step hbl)
    have HXz := Kp.mk (HX.out.step hbl)
    have HYz := Kp.mk (HY.out.step hbl)
    have kHA0z := HAz.out.c0
    have kHA1z := HAz.out.c1
    have kHC0z := HCz.out.c0
    have kHC1z := HCz.out.c1
    have kHD0z := HDz.out.c0
    have kHD1z := HDz.out.c1
    have kHX0z := HXz.out.c0
    have kHX1z := HXz.out.c1
    have kHY0z := HYz.out.c0
    have kHY1z := HYz.out.c1
    clear hbl
    go_region_held3 (fun w' => w'.cell? ⟨w.heap.size, 0, none⟩ = some (.int .i8 f) ∧ w'.cell? ⟨w.heap.size, 1, none⟩ = some (.int .i64 d) ∧ w'.cell? ⟨w.heap.size + 1, 0, none⟩ = some (.int .i8 f) ∧ w'.cell? ⟨w.heap.size + 1, 1, none⟩ = some (.int .i64 e) ∧ w'.cell? ⟨w.heap.size + 1 + 1, 0, none⟩ = some (.int .i8 h) ∧ w'.cell? ⟨w.heap.size + 1 + 1, 1, none⟩ = some (.int .i64 i) ∧ w'.cell? ⟨g1, 0, none⟩ = some (.int .i8 f) ∧ w'.cell? ⟨g1, 1, none⟩ = some (.int .i64 d) ∧ w'.cell? ⟨g1 + 1, 0, none⟩ = some (.int .i8 f) ∧ w'.cell? ⟨g1 + 1, 1, none⟩ = some (.int .i64 e)) (first | (with_reducible exact ⟨kHA0, kHA1, kHC0, kHC1, kHD0, kHD1, kHX0, kHX1, kHY0, kHY1⟩) | (with_reducible exact ⟨kHA0z, kHA1z, kHC0z, kHC1z, kHD0z, kHD1z, kHX0z, kHX1z, kHY0z, kHY1z⟩) | (with_reducible exact ⟨kHA0_u6, kHA1_u6, kHC0_u6, kHC1_u6, kHD0_u6, kHD1_u6, kHX0_u6, kHX1_u6, kHY0_u6, kHY1_u6⟩) | (with_reducible exact ⟨kHA0_u7, kHA1_u7, kHC0_u7, kHC1_u7, kHD0_u7, kHD1_u7, kHX0_u7, kHX1_u7, kHY0_u7, kHY1_u7⟩) | (with_reducible exact ⟨kHA0_u8, kHA1_u8, kHC0_u8, kHC1_u8, kHD0_u8, kHD1_u8, kHX0_u8, kHX1_u8, kHY0_u8, kHY1_u8⟩) | go_keep)
      (first
        | (go_at_call 10; (with_reducible show Calls _ _ _ u5.drew _); (with_reducible refine (r6.out _ HBz.out.below).mono ?_); rintro e u6 ⟨rfl, hb⟩; have HB_u6 := Kp.mk (HBz.out.step hb); have HA_u6 := Kp.mk (HAz.out.step hb); have HC_u6 := Kp.mk (HCz.out.step hb); have HD_u6 := Kp.mk (HDz.out.step hb); have HX_u6 := Kp.mk (HXz.out.step hb); have HY_u6 := Kp.mk (HYz.out.step hb); have kHA0_u6 := HA_u6.out.c0; have kHA1_u6 := HA_u6.out.c1; have kHC0_u6 := HC_u6.out.c0; have kHC1_u6 := HC_u6.out.c1; have kHD0_u6 := HD_u6.out.c0; have kHD1_u6 := HD_u6.out.c1; have kHX0_u6 := HX_u6.out.c0; have kHX1_u6 := HX_u6.out.c1; have kHY0_u6 := HY_u6.out.c0; have kHY1_u6 := HY_u6.out.c1; clear hb)
        | (go_at_call 11; (with_reducible show Calls _ _ _ u6 _); (with_reducible refine (r7.out _ HB_u6.out.below).mono ?_); rintro e u7 ⟨rfl, hb⟩; have HB_u7 := Kp.mk (HB_u6.out.step hb); have HA_u7 := Kp.mk (HA_u6.out.step hb); have HC_u7 := Kp.mk (HC_u6.out.step hb); have HD_u7 := Kp.mk (HD_u6.out.step hb); have HX_u7 := Kp.mk (HX_u6.out.step hb); have HY_u7 := Kp.mk (HY_u6.out.step hb); have kHA0_u7 := HA_u7.out.c0; have kHA1_u7 := HA_u7.out.c1; have kHC0_u7 := HC_u7.out.c0; have kHC1_u7 := HC_u7.out.c1; have kHD0_u7 := HD_u7.out.c0; have kHD1_u7 := HD_u7.out.c1; have kHX0_u7 := HX_u7.out.c0; have kHX1_u7 := HX_u7.out.c1; have kHY0_u7 := HY_u7.out.c0; have kHY1_u7 := HY_u7.out.c1; clear hb)
        | (go_at_call 12; (with_reducible show Calls _ _ _ u7 _); (with_reducible refine (rl.out _ HB_u7.out.below).mono ?_); rintro e u8 ⟨rfl, hb⟩; have HB_u8 := Kp.mk (HB_u7.out.step hb); have HA_u8 := Kp.mk (HA_u7.out.step hb); have HC_u8 := Kp.mk (HC_u7.out.step hb); have HD_u8 := Kp.mk (HD_u7.out.step hb); have HX_u8 := Kp.mk (HX_u7.out.step hb); have HY_u8 := Kp.mk (HY_u7.out.step hb); have kHA0_u8 := HA_u8.out.c0; have kHA1_u8 := HA_u8.out.c1; have kHC0_u8 := HC_u8.out.c0; have kHC1_u8 := HC_u8.out.c1; have kHD0_u8 := HD_u8.out.c0; have kHD1_u8 := HD_u8.out.c1; have kHX0_u8 := HX_u8.out.c0; have kHX1_u8 := HX_u8.out.c1; have kHY0_u8 := HY_u8.out.c0; have kHY1_u8 := HY_u8.out.c1; clear hb))
    have HB := HB_u8
    have HA := HA_u8
    have HC := HC_u8
    have HD := HD_u8
    have HX := HX_u8
    have HY := HY_u8
    have kHA0 := HA.out.c0
    have kHA1 := HA.out.c1
    have kHC0 := HC.out.c0
    have kHC1 := HC.out.c1
    have kHD0 := HD.out.c0
    have kHD1 := HD.out.c1
    have kHX0 := HX.out.c0
    have kHX1 := HX.out.c1
    have kHY0 := HY.out.c0
    have kHY1 := HY.out.c1
    go_wp2_with fail
    go_ret
    exact ⟨rfl, HB.out.below⟩
  · clear b1 b2 xHA0 yHA0 xHA1 yHA1 xHC0 yHC0 xHC1 yHC1
    clear kHA0 kHA1 kHC0 kHC1 kHD0 kHD1
    have HY := Kp.mk (eb_new f e 24 HB.out.below)
    have hx := eb_new f d 24 HY.out.below
    rw [World.size_alloc] at hx
    have HX := Kp.mk hx
    clear hx
    have HY := Kp.mk (HY.out.step ((Below.refl (u4.alloc (.cells #[.int .i8 f, .int .i64 e] 24)).heap.size _).alloc (Nat.le_refl _) (.cells #[.int .i8 f, .int .i64 d] 24)))
    have hbl := ((Below.refl u4.heap.size u4).alloc (Nat.le_refl _) (.cells #[.int .i8 f, .int .i64 e] 24)).alloc (by simp) (.cells #[.int .i8 f, .int .i64 d] 24)
    have hbl := hbl.drew
    have HY := Kp.mk (HY.out.step (Below.refl ((u4.alloc (.cells #[.int .i8 f, .int .i64 e] 24)).alloc (.cells #[.int .i8 f, .int .i64 d] 24)).heap.size _).drew)
    have HX := Kp.mk (HX.out.step (Below.refl ((u4.alloc (.cells #[.int .i8 f, .int .i64 e] 24)).alloc (.cells #[.int .i8 f, .int .i64 d] 24)).heap.size _).drew)
    have HB := Kp.mk (HB.out.step hbl)
    have HA := Kp.mk (HA.out.step hbl)
    have HC := Kp.mk (HC.out.step hbl)
    have HD := Kp.mk (HD.out.step hbl)
    clear hbl
    generalize (((u4.alloc (.cells #[.int .i8 f, .int .i64 e] 24)).alloc (.cells #[.int .i8 f, .int .i64 d] 24)).drew) = u5 at *
    generalize u4.heap.size = g1 at *
    have kHA0 := HA.out.c0
    have kHA1 := HA.out.c1
    have kHC0 := HC.out.c0
    have kHC1 := HC.out.c1
    have kHD0 := HD.out.c0
    have kHD1 := HD.out.c1
    have kHY0 := HY.out.c0
    have kHY1 := HY.out.c1
    have kHX0 := HX.out.c0
    have kHX1 := HX.out.c1
    go_upto_region 9 with fail
    have hbl := (Below.refl u5.heap.size u5).drew
    have HBz := Kp.mk (HB.out.step hbl)
    have HAz := Kp.mk (HA.out.step hbl)
    have HCz := Kp.mk (HC.out.step hbl)
    have HDz := Kp.mk (HD.out.step hbl)
    have HYz := Kp.mk (HY.out.step hbl)
    have HXz := Kp.mk (HX.out.step hbl)
    have kHA0z := HAz.out.c0
    have kHA1z := HAz.out.c1
    have kHC0z := HCz.out.c0
    have kHC1z := HCz.out.c1
    have kHD0z := HDz.out.c0
    have kHD1z := HDz.out.c1
    have kHY0z := HYz.out.c0
    have kHY1z := HYz.out.c1
    have kHX0z := HXz.out.c0
    have kHX1z := HXz.out.c1
    clear hbl
    go_region_held3 (fun w' => w'.cell? ⟨w.heap.size, 0, none⟩ = some (.int .i8 f) ∧ w'.cell? ⟨w.heap.size, 1, none⟩ = some (.int .i64 d) ∧ w'.cell? ⟨w.heap.size + 1, 0, none⟩ = some (.int .i8 f) ∧ w'.cell? ⟨w.heap.size + 1, 1, none⟩ = some (.int .i64 e) ∧ w'.cell? ⟨w.heap.size + 1 + 1, 0, none⟩ = some (.int .i8 h) ∧ w'.cell? ⟨w.heap.size + 1 + 1, 1, none⟩ = some (.int .i64 i) ∧ w'.cell? ⟨g1, 0, none⟩ = some (.int .i8 f) ∧ w'.cell? ⟨g1, 1, none⟩ = some (.int .i64 e) ∧ w'.cell? ⟨g1 + 1, 0, none⟩ = some (.int .i8 f) ∧ w'.cell? ⟨g1 + 1, 1, none⟩ = some (.int .i64 d)) (first | (with_reducible exact ⟨kHA0, kHA1, kHC0, kHC1, kHD0, kHD1, kHY0, kHY1, kHX0, kHX1⟩) | (with_reducible exact ⟨kHA0z, kHA1z, kHC0z, kHC1z, kHD0z, kHD1z, kHY0z, kHY1z, kHX0z, kHX1z⟩) | (with_reducible exact ⟨kHA0_u6, kHA1_u6, kHC0_u6, kHC1_u6, kHD0_u6, kHD1_u6, kHY0_u6, kHY1_u6, kHX0_u6, kHX1_u6⟩) | (with_reducible exact ⟨kHA0_u7, kHA1_u7, kHC0_u7, kHC1_u7, kHD0_u7, kHD1_u7, kHY0_u7, kHY1_u7, kHX0_u7, kHX1_u7⟩) | (with_reducible exact ⟨kHA0_u8, kHA1_u8, kHC0_u8, kHC1_u8, kHD0_u8, kHD1_u8, kHY0_u8, kHY1_u8, kHX0_u8, kHX1_u8⟩) | go_keep)
      (first
        | (go_at_call 10; (with_reducible show Calls _ _ _ u5.drew _); (with_reducible refine (r6.out _ HBz.out.below).mono ?_); rintro e u6 ⟨rfl, hb⟩; have HB_u6 := Kp.mk (HBz.out.step hb); have HA_u6 := Kp.mk (HAz.out.step hb); have HC_u6 := Kp.mk (HCz.out.step hb); have HD_u6 := Kp.mk (HDz.out.step hb); have HY_u6 := Kp.mk (HYz.out.step hb); have HX_u6 := Kp.mk (HXz.out.step hb); have kHA0_u6 := HA_u6.out.c0; have kHA1_u6 := HA_u6.out.c1; have kHC0_u6 := HC_u6.out.c0; have kHC1_u6 := HC_u6.out.c1; have kHD0_u6 := HD_u6.out.c0; have kHD1_u6 := HD_u6.out.c1; have kHY0_u6 := HY_u6.out.c0; have kHY1_u6 := HY_u6.out.c1; have kHX0_u6 := HX_u6.out.c0; have kHX1_u6 := HX_u6.out.c1; clear hb)
        | (go_at_call 11; (with_reducible show Calls _ _ _ u6 _); (with_reducible refine (r7.out _ HB_u6.out.below).mono ?_); rintro e u7 ⟨rfl, hb⟩; have HB_u7 := Kp.mk (HB_u6.out.step hb); have HA_u7 := Kp.mk (HA_u6.out.step hb); have HC_u7 := Kp.mk (HC_u6.out.step hb); have HD_u7 := Kp.mk (HD_u6.out.step hb); have HY_u7 := Kp.mk (HY_u6.out.step hb); have HX_u7 := Kp.mk (HX_u6.out.step hb); have kHA0_u7 := HA_u7.out.c0; have kHA1_u7 := HA_u7.out.c1; have kHC0_u7 := HC_u7.out.c0; have kHC1_u7 := HC_u7.out.c1; have kHD0_u7 := HD_u7.out.c0; have kHD1_u7 := HD_u7.out.c1; have kHY0_u7 := HY_u7.out.c0; have kHY1_u7 := HY_u7.out.c1; have kHX0_u7 := HX_u7.out.c0; have kHX1_u7 := HX_u7.out.c1; clear hb)
        | (go_at_call 12; (with_reducible show Calls _ _ _ u7 _); (with_reducible refine (rl.out _ HB_u7.out.below).mono ?_); rintro e u8 ⟨rfl, hb⟩; have HB_u8 := Kp.mk (HB_u7.out.step hb); have HA_u8 := Kp.mk (HA_u7.out.step hb); have HC_u8 := Kp.mk (HC_u7.out.step hb); have HD_u8 := Kp.mk (HD_u7.out.step hb); have HY_u8 := Kp.mk (HY_u7.out.step hb); have HX_u8 := Kp.mk (HX_u7.out.step hb); have kHA0_u8 := HA_u8.out.c0; have kHA1_u8 := HA_u8.out.c1; have kHC0_u8 := HC_u8.out.c0; have kHC1_u8 := HC_u8.out.c1; have kHD0_u8 := HD_u8.out.c0; have kHD1_u8 := HD_u8.out.c1; have kHY0_u8 := HY_u8.out.c0; have kHY1_u8 := HY_u8.out.c1; have kHX0_u8 := HX_u8.out.c0; have kHX1_u8 := HX_u8.out.c1; clear hb))
    have HB := HB_u8
    have HA := HA_u8
    have HC := HC_u8
    have HD := HD_u8
    have HY := HY_u8
    have HX := HX_u8
    have kHA0 := HA.out.c0
    have kHA1 := HA.out.c1
    have kHC0 := HC.out.c0
    have kHC1 := HC.out.c1
    have kHD0 := HD.out.c0
    have kHD1 := HD.out.c1
    have kHY0 := HY.out.c0
    have kHY1 := HY.out.c1
    have kHX0 := HX.out.c0
    have kHX1 := HX.out.c1
    go_wp2_with fail
    go_ret
    exact ⟨rfl, HB.out.below⟩
set_option maxHeartbeats 8000000 in
theorem lawOrder_mol {I : World → Prop} (C : EndFns I) (f d g e h i : Int) (w : World) (hI : I w) (d0 : -9223372036854775808 ≤ d) (d1 : d ≤ 9223372036854775807) (e0 : -9223372036854775808 ≤ e) (e1 : e ≤ 9223372036854775807) (i0 : -9223372036854775808 ≤ i) (i1 : i ≤ 9223372036854775807) (hn : cmpE f d g e = -1) (hf : ¬ f = g) (hp : cmpE g e h i ≤ 0) (hq : cmpE f d h i ≤ 0) :
    Calls Tryd.prog 3 #[.agg #[.int .i8 f, .int .i64 d], .agg #[.int .i8 g, .int .i64 e], .agg #[.int .i8 h, .int .i64 i]] w fun x w' => x = .returned (.bool true) ∧ Below w.heap.size w w' := by
  have HA := Kp.mk (eb_three w f d g e h i).1
  have HC := Kp.mk (eb_three w f d g e h i).2.1
  have HD := Kp.mk (eb_three w f d g e h i).2.2
  have HB := Kp.mk (Bl.mk HA.out.below)
  have HI := Kp.mk (fun (v : World) (h : Below w.heap.size w v) => C.keep hI h)
  clear hI
  have rl := Kp.mk (fun v (hw : Below w.heap.size w v) => C.lives v (HI.out v hw))
  have hs : cmpE g e f d = 1 := by rw [cmpE_swap, hn]; rfl
  obtain ⟨p, hp2⟩ : ∃ p, cmpE g e h i = p := ⟨_, rfl⟩
  rw [hp2] at hp
  have tp : decide (p ≤ 0) = true := decide_eq_true hp
  obtain ⟨q, hq2⟩ : ∃ q, cmpE f d h i = q := ⟨_, rfl⟩
  rw [hq2] at hq
  have tq : decide (0 < q) = false := decide_eq_false (by omega)
  have r5 := Kp.mk (fun v (hw : Below w.heap.size w v) => C.cmp v (HI.out v hw) d0 d1 i0 i1 hq2)
  have r1 := Kp.mk (fun v (hw : Below w.heap.size w v) => C.cmp v (HI.out v hw) d0 d1 e0 e1 hn)
  have r2 := Kp.mk (fun w => refECmp_is hn w)
  have r3 := Kp.mk (fun v (hw : Below w.heap.size w v) => C.cmp v (HI.out v hw) e0 e1 d0 d1 hs)
  have r4 := Kp.mk (fun v (hw : Below w.heap.size w v) => C.cmp v (HI.out v hw) e0 e1 i0 i1 hp2)
  have r6 := Kp.mk (fun v (hw : Below w.heap.size w v) => C.min_le (f := f) (g := g) v (HI.out v hw) d0 d1 e0 e1 (by omega))
  have r7 := Kp.mk (fun v (hw : Below w.heap.size w v) => C.max_le (f := f) (g := g) v (HI.out v hw) d0 d1 e0 e1 (by omega))
  have t1 : (f == g) = false := by rw [beq_eq_false_iff_ne]; exact hf
  clear C d0 d1 e0 e1 i0 i1 hn hs hp2 hp hf hq hq2
  go_enter Tryd.func3, Tryd.ntmps3
  go_upto_region 1 with fail
  generalize (((w.alloc (.cells #[.int .i8 f, .int .i64 d] 24)).alloc (.cells #[.int .i8 g, .int .i64 e] 24)).alloc (.cells #[.int .i8 h, .int .i64 i] 24)) = w0 at *
  have kHA0 := HA.out.c0
  have kHA1 := HA.out.c1
  have kHC0 := HC.out.c0
  have kHC1 := HC.out.c1
  have kHD0 := HD.out.c0
  have kHD1 := HD.out.c1
  go_wp2_with fail
  refine (r1.out _ HB.out.below).mono ?_
  rintro e u1 ⟨rfl, hbl⟩
  clear kHA0 kHA1 kHC0 kHC1 kHD0 kHD1
  have HB := Kp.mk (HB.out.step hbl)
  have HA := Kp.mk (HA.out.step hbl)
  have HC := Kp.mk (HC.out.step hbl)
  have HD := Kp.mk (HD.out.step hbl)
  clear hbl
  have kHA0 := HA.out.c0
  have kHA1 := HA.out.c1
  have kHC0 := HC.out.c0
  have kHC1 := HC.out.c1
  have kHD0 := HD.out.c0
  have kHD1 := HD.out.c1
  go_wp2_with fail
  refine (r2.out _).mono ?_
  rintro e u2 ⟨rfl, hbl⟩
  clear kHA0 kHA1 kHC0 kHC1 kHD0 kHD1
  have HB := Kp.mk (HB.out.step hbl)
  have HA := Kp.mk (HA.out.step hbl)
  have HC := Kp.mk (HC.out.step hbl)
  have HD := Kp.mk (HD.out.step hbl)
  clear hbl
  have kHA0 := HA.out.c0
  have kHA1 := HA.out.c1
  have kHC0 := HC.out.c0
  have kHC1 := HC.out.c1
  have kHD0 := HD.out.c0
  have kHD1 := HD.out.c1
  go_wp2_with fail
  refine (r3.out _ HB.out.below).mono ?_
  rintro e u3 ⟨rfl, hbl⟩
  clear kHA0 kHA1 kHC0 kHC1 kHD0 kHD1
  have HB := Kp.mk (HB.out.step hbl)
  have HA := Kp.mk (HA.out.step hbl)
  have HC := Kp.mk (HC.out.step hbl)
  have HD := Kp.mk (HD.out.step hbl)
  clear hbl
  have kHA0 := HA.out.c0
  have kHA1 := HA.out.c1
  have kHC0 := HC.out.c0
  have kHC1 := HC.out.c1
  have kHD0 := HD.out.c0
  have kHD1 := HD.out.c1
  go_wp2_with fail
  refine (r4.out _ HB.out.below).mono ?_
  rintro e u4 ⟨rfl, hbl⟩
  clear kHA0 kHA1 kHC0 kHC1 kHD0 kHD1
  have HB := Kp.mk (HB.out.step hbl)
  have HA := Kp.mk (HA.out.step hbl)
  have HC := Kp.mk (HC.out.step hbl)
  have HD := Kp.mk (HD.out.step hbl)
  clear hbl
  have kHA0 := HA.out.c0
  have kHA1 := HA.out.c1
  have kHC0 := HC.out.c0
  have kHC1 := HC.out.c1
  have kHD0 := HD.out.c0
  have kHD1 := HD.out.c1
  go_wp2_with fail
  refine (r5.out _ HB.out.below).mono ?_
  rintro e u5 ⟨rfl, hbl⟩
  clear kHA0 kHA1 kHC0 kHC1 kHD0 kHD1
  have HB := Kp.mk (HB.out.step hbl)
  have HA := Kp.mk (HA.out.step hbl)
  have HC := Kp.mk (HC.out.step hbl)
  have HD := Kp.mk (HD.out.step hbl)
  clear hbl
  have kHA0 := HA.out.c0
  have kHA1 := HA.out.c1
  have kHC0 := HC.out.c0
  have kHC1 := HC.out.c1
  have kHD0 := HD.out.c0
  have kHD1 := HD.out.c1
  go_upto_region 6 with fail
  have b1 : ∀ o1, Below u5.heap.size u5 (u5.alloc o1).drew := fun o1 => ((Below.refl u5.heap.size u5).alloc (Nat.le_refl _) o1).drew
  have b2 : ∀ o1 o2, Below u5.heap.size u5 ((u5.alloc o1).alloc o2).drew := fun o1 o2 => (((Below.refl u5.heap.size u5).alloc (Nat.le_refl _) o1).alloc (by simp) o2).drew
  have xHA0 : ∀ o1, (u5.alloc o1).drew.cell? ⟨w.heap.size, 0, none⟩ = some (.int .i8 f) := fun o1 => (HA.out.step (b1 o1)).c0
  have yHA0 : ∀ o1 o2, ((u5.alloc o1).alloc o2).drew.cell? ⟨w.heap.size, 0, none⟩ = some (.int .i8 f) := fun o1 o2 => (HA.out.step (b2 o1 o2)).c0
  have xHA1 : ∀ o1, (u5.alloc o1).drew.cell? ⟨w.heap.size, 1, none⟩ = some (.int .i64 d) := fun o1 => (HA.out.step (b1 o1)).c1
  have yHA1 : ∀ o1 o2, ((u5.alloc o1).alloc o2).drew.cell? ⟨w.heap.size, 1, none⟩ = some (.int .i64 d) := fun o1 o2 => (HA.out.step (b2 o1 o2)).c1
  have xHC0 : ∀ o1, (u5.alloc o1).drew.cell? ⟨w.heap.size + 1, 0, none⟩ = some (.int .i8 g) := fun o1 => (HC.out.step (b1 o1)).c0
  have yHC0 : ∀ o1 o2, ((u5.alloc o1).alloc o2).drew.cell? ⟨w.heap.size + 1, 0, none⟩ = some (.int .i8 g) := fun o1 o2 => (HC.out.step (b2 o1 o2)).c0
  have xHC1 : ∀ o1, (u5.alloc o1).drew.cell? ⟨w.heap.size + 1, 1, none⟩ = some (.int .i64 e) := fun o1 => (HC.out.step (b1 o1)).c1
  have yHC1 : ∀ o1 o2, ((u5.alloc o1).alloc o2).drew.cell? ⟨w.heap.size + 1, 1, none⟩ = some (.int .i64 e) := fun o1 o2 => (HC.out.step (b2 o1 o2)).c1
  go_region
  · clear b1 b2 xHA0 yHA0 xHA1 yHA1 xHC0 yHC0 xHC1 yHC1
    clear kHA0 kHA1 kHC0 kHC1 kHD0 kHD1
    have HX := Kp.mk (eb_new f d 24 HB.out.below)
    have hx := eb_new g e 24 HX.out.below
    rw [World.size_alloc] at hx
    have HY := Kp.mk hx
    clear hx
    have HX := Kp.mk (HX.out.step ((Below.refl (u5.alloc (.cells #[.int .i8 f, .int .i64 d] 24)).heap.size _).alloc (Nat.le_refl _) (.cells #[.int .i8 g, .int .i64 e] 24)))
    have hbl := ((Below.refl u5.heap.size u5).alloc (Nat.le_refl _) (.cells #[.int .i8 f, .int .i64 d] 24)).alloc (by simp) (.cells #[.int .i8 g, .int .i64 e] 24)
    have hbl := hbl.drew
    have HX := Kp.mk (HX.out.step (Below.refl ((u5.alloc (.cells #[.int .i8 f, .int .i64 d] 24)).alloc (.cells #[.int .i8 g, .int .i64 e] 24)).heap.size _).drew)
    have HY := Kp.mk (HY.out.step (Below.refl ((u5.alloc (.cells #[.int .i8 f, .int .i64 d] 24)).alloc (.cells #[.int .i8 g, .int .i64 e] 24)).heap.size _).drew)
    have HB := Kp.mk (HB.out.step hbl)
    have HA := Kp.mk (HA.out.step hbl)
    have HC := Kp.mk (HC.out.step hbl)
    have HD := Kp.mk (HD.out.step hbl)
    clear hbl
    generalize (((u5.alloc (.cells #[.int .i8 f, .int .i64 d] 24)).alloc (.cells #[.int .i8 g, .int .i64 e] 24)).drew) = u6 at *
    generalize u5.heap.size = g1 at *
    have kHA0 := HA.out.c0
    have kHA1 := HA.out.c1
    have kHC0 := HC.out.c0
    have kHC1 := HC.out.c1
    have kHD0 := HD.out.c0
    have kHD1 := HD.out.c1
    have kHX0 := HX.out.c0
    have kHX1 := HX.out.c1
    have kHY0 := HY.out.c0
    have kHY1 := HY.out.c1
    go_upto_region 9 with fail
    have hbl := (Below.refl u6.heap.size u6).drew
    have HBz := Kp.mk (HB.out.step hbl)
    have HAz := Kp.mk (HA.out.step hbl)
    have HCz := Kp.mk (HC.out.step hbl)
    have HDz := Kp.mk (HD.out.step hbl)
    have HXz := Kp.mk (HX.out.step hbl)
    have HYz := Kp.mk (HY.out.step hbl)
    have kHA0z := HAz.out.c0
    have kHA1z := HAz.out.c1
    have kHC0z := HCz.out.c0
    have kHC1z := HCz.out.c1
    have kHD0z := HDz.out.c0
    have kHD1z := HDz.out.c1
    have kHX0z := HXz.out.c0
    have kHX1z := HXz.out.c1
    have kHY0z := HYz.out.c0
    have kHY1z := HYz.out.c1
    clear hbl
    go_region_held3 (fun w' => w'.cell? ⟨w.heap.size, 0, none⟩ = some (.int .i8 f) ∧ w'.cell? ⟨w.heap.size, 1, none⟩ = some (.int .i64 d) ∧ w'.cell? ⟨w.heap.size + 1, 0, none⟩ = some (.int .i8 g) ∧ w'.cell? ⟨w.heap.size + 1, 1, none⟩ = some (.int .i64 e) ∧ w'.cell? ⟨w.heap.size + 1 + 1, 0, none⟩ = some (.int .i8 h) ∧ w'.cell? ⟨w.heap.size + 1 + 1, 1, none⟩ = some (.int .i64 i) ∧ w'.cell? ⟨g1, 0, none⟩ = some (.int .i8 f) ∧ w'.cell? ⟨g1, 1, none⟩ = some (.int .i64 d) ∧ w'.cell? ⟨g1 + 1, 0, none⟩ = some (.int .i8 g) ∧ w'.cell? ⟨g1 + 1, 1, none⟩ = some (.int .i64 e)) (first | (with_reducible exact ⟨kHA0, kHA1, kHC0, kHC1, kHD0, kHD1, kHX0, kHX1, kHY0, kHY1⟩) | (with_reducible exact ⟨kHA0z, kHA1z, kHC0z, kHC1z, kHD0z, kHD1z, kHX0z, kHX1z, kHY0z, kHY1z⟩) | (with_reducible exact ⟨kHA0_u7, kHA1_u7, kHC0_u7, kHC1_u7, kHD0_u7, kHD1_u7, kHX0_u7, kHX1_u7, kHY0_u7, kHY1_u7⟩) | (with_reducible exact ⟨kHA0_u8, kHA1_u8, kHC0_u8, kHC1_u8, kHD0_u8, kHD1_u8, kHX0_u8, kHX1_u8, kHY0_u8, kHY1_u8⟩) | (with_reducible exact ⟨kHA0_u9, kHA1_u9, kHC0_u9, kHC1_u9, kHD0_u9, kHD1_u9, kHX0_u9, kHX1_u9, kHY0_u9, kHY1_u9⟩) | go_keep)
      (first
        | (go_at_call 10; (with_reducible show Calls _ _ _ u6.drew _); (with_reducible refine (r6.out _ HBz.out.below).mono ?_); rintro e u7 ⟨rfl, hb⟩; have HB_u7 := Kp.mk (HBz.out.step hb); have HA_u7 := Kp.mk (HAz.out.step hb); have HC_u7 := Kp.mk (HCz.out.step hb); have HD_u7 := Kp.mk (HDz.out.step hb); have HX_u7 := Kp.mk (HXz.out.step hb); have HY_u7 := Kp.mk (HYz.out.step hb); have kHA0_u7 := HA_u7.out.c0; have kHA1_u7 := HA_u7.out.c1; have kHC0_u7 := HC_u7.out.c0; have kHC1_u7 := HC_u7.out.c1; have kHD0_u7 := HD_u7.out.c0; have kHD1_u7 := HD_u7.out.c1; have kHX0_u7 := HX_u7.out.c0; have kHX1_u7 := HX_u7.out.c1; have kHY0_u7 := HY_u7.out.c0; have kHY1_u7 := HY_u7.out.c1; clear hb)
        | (go_at_call 11; (with_reducible show Calls _ _ _ u7 _); (with_reducible refine (r7.out _ HB_u7.out.below).mono ?_); rintro e u8 ⟨rfl, hb⟩; have HB_u8 := Kp.mk (HB_u7.out.step hb); have HA_u8 := Kp.mk (HA_u7.out.step hb); have HC_u8 := Kp.mk (HC_u7.out.step hb); have HD_u8 := Kp.mk (HD_u7.out.step hb); have HX_u8 := Kp.mk (HX_u7.out.step hb); have HY_u8 := Kp.mk (HY_u7.out.step hb); have kHA0_u8 := HA_u8.out.c0; have kHA1_u8 := HA_u8.out.c1; have kHC0_u8 := HC_u8.out.c0; have kHC1_u8 := HC_u8.out.c1; have kHD0_u8 := HD_u8.out.c0; have kHD1_u8 := HD_u8.out.c1; have kHX0_u8 := HX_u8.out.c0; have kHX1_u8 := HX_u8.out.c1; have kHY0_u8 := HY_u8.out.c0; have kHY1_u8 := HY_u8.out.c1; clear hb)
        | (go_at_call 12; (with_reducible show Calls _ _ _ u8 _); (with_reducible refine (rl.out _ HB_u8.out.below).mono ?_); rintro e u9 ⟨rfl, hb⟩; have HB_u9 := Kp.mk (HB_u8.out.step hb); have HA_u9 := Kp.mk (HA_u8.out.step hb); have HC_u9 := Kp.mk (HC_u8.out.step hb); have HD_u9 := Kp.mk (HD_u8.out.step hb); have HX_u9 := Kp.mk (HX_u8.out.step hb); have HY_u9 := Kp.mk (HY_u8.out.step hb); have kHA0_u9 := HA_u9.out.c0; have kHA1_u9 := HA_u9.out.c1; have kHC0_u9 := HC_u9.out.c0; have kHC1_u9 := HC_u9.out.c1; have kHD0_u9 := HD_u9.out.c0; have kHD1_u9 := HD_u9.out.c1; have kHX0_u9 := HX_u9.out.c0; have kHX1_u9 := HX_u9.out.c1; have kHY0_u9 := HY_u9.out.c0; have kHY1_u9 := HY_u9.out.c1; clear hb))
    have HB := HB_u9
    have HA := HA_u9
    have HC := HC_u9
    have HD := HD_u9
    have HX := HX_u9
    have HY := HY_u9
    have kHA0 := HA.out.c0
    have kHA1 := HA.out.c1
    have kHC0 := HC.out.c0
    have kHC1 := HC.out.c1
    have kHD0 := HD.out.c0
    have kHD1 := HD.out.c1
    have kHX0 := HX.out.c0
    have kHX1 := HX.out.c1
    have kHY0 := HY.out.c0
    have kHY1 := HY.out.c1
    go_wp2_with fail
    go_ret
    exact ⟨rfl, HB.out.below⟩
  · clear b1 b2 xHA0 yHA0 xHA1 yHA1 xHC0 yHC0 xHC1 yHC1
    clear kHA0 kHA1 kHC0 kHC1 kHD0 kHD1
    have HY := Kp.mk (eb_new g e 24 HB.out.below)
    have hx := eb_new f d 24 HY.out.below
    rw [World.size_alloc] at hx
    have HX := Kp.mk hx
    clear hx
    have HY := Kp.mk (HY.out.step ((Below.refl (u5.alloc (.cells #[.int .i8 g, .int .i64 e] 24)).heap.size _).alloc (Nat.le_refl _) (.cells #[.int .i8 f, .int .i64 d] 24)))
    have hbl := ((Below.refl u5.heap.size u5).alloc (Nat.le_refl _) (.cells #[.int .i8 g, .int .i64 e] 24)).alloc (by simp) (.cells #[.int .i8 f, .int .i64 d] 24)
    have hbl := hbl.drew
    have HY := Kp.mk (HY.out.step (Below.refl ((u5.alloc (.cells #[.int .i8 g, .int .i64 e] 24)).alloc (.cells #[.int .i8 f, .int .i64 d] 24)).heap.size _).drew)
    have HX := Kp.mk (HX.out.step (Below.refl ((u5.alloc (.cells #[.int .i8 g, .int .i64 e] 24)).alloc (.cells #[.int .i8 f, .int .i64 d] 24)).heap.size _).drew)
    have HB := Kp.mk (HB.out.step hbl)
    have HA := Kp.mk (HA.out.step hbl)
    have HC := Kp.mk (HC.out.step hbl)
    have HD := Kp.mk (HD.out.step hbl)
    clear hbl
    generalize (((u5.alloc (.cells #[.int .i8 g, .int .i64 e] 24)).alloc (.cells #[.int .i8 f, .int .i64 d] 24)).drew) = u6 at *
    generalize u5.heap.size = g1 at *
    have kHA0 := HA.out.c0
    have kHA1 := HA.out.c1
    have kHC0 := HC.out.c0
    have kHC1 := HC.out.c1
    have kHD0 := HD.out.c0
    have kHD1 := HD.out.c1
    have kHY0 := HY.out.c0
    have kHY1 := HY.out.c1
    have kHX0 := HX.out.c0
    have kHX1 := HX.out.c1
    go_upto_region 9 with fail
    have hbl := (Below.refl u6.heap.size u6).drew
    have HBz := Kp.mk (HB.out.step hbl)
    have HAz := Kp.mk (HA.out.step hbl)
    have HCz := Kp.mk (HC.out.step hbl)
    have HDz := Kp.mk (HD.out.step hbl)
    have HYz := Kp.mk (HY.out.step hbl)
    have HXz := Kp.mk (HX.out.step hbl)
    have kHA0z := HAz.out.c0
    have kHA1z := HAz.out.c1
    have kHC0z := HCz.out.c0
    have kHC1z := HCz.out.c1
    have kHD0z := HDz.out.c0
    have kHD1z := HDz.out.c1
    have kHY0z := HYz.out.c0
    have kHY1z := HYz.out.c1
    have kHX0z := HXz.out.c0
    have kHX1z := HXz.out.c1
    clear hbl
    go_region_held3 (fun w' => w'.cell? ⟨w.heap.size, 0, none⟩ = some (.int .i8 f) ∧ w'.cell? ⟨w.heap.size, 1, none⟩ = some (.int .i64 d) ∧ w'.cell? ⟨w.heap.size + 1, 0, none⟩ = some (.int .i8 g) ∧ w'.cell? ⟨w.heap.size + 1, 1, none⟩ = some (.int .i64 e) ∧ w'.cell? ⟨w.heap.size + 1 + 1, 0, none⟩ = some (.int .i8 h) ∧ w'.cell? ⟨w.heap.size + 1 + 1, 1, none⟩ = some (.int .i64 i) ∧ w'.cell? ⟨g1, 0, none⟩ = some (.int .i8 g) ∧ w'.cell? ⟨g1, 1, none⟩ = some (.int .i64 e) ∧ w'.cell? ⟨g1 + 1, 0, none⟩ = some (.int .i8 f) ∧ w'.cell? ⟨g1 + 1, 1, none⟩ = some (.int .i64 d)) (first | (with_reducible exact ⟨kHA0, kHA1, kHC0, kHC1, kHD0, kHD1, kHY0, kHY1, kHX0, kHX1⟩) | (with_reducible exact ⟨kHA0z, kHA1z, kHC0z, kHC1z, kHD0z, kHD1z, kHY0z, kHY1z, kHX0z, kHX1z⟩) | (with_reducible exact ⟨kHA0_u7, kHA1_u7, kHC0_u7, kHC1_u7, kHD0_u7, kHD1_u7, kHY0_u7, kHY1_u7, kHX0_u7, kHX1_u7⟩) | (with_reducible exact ⟨kHA0_u8, kHA1_u8, kHC0_u8, kHC1_u8, kHD0_u8, kHD1_u8, kHY0_u8, kHY1_u8, kHX0_u8, kHX1_u8⟩) | (with_reducible exact ⟨kHA0_u9, kHA1_u9, kHC0_u9, kHC1_u9, kHD0_u9, kHD1_u9, kHY0_u9, kHY1_u9, kHX0_u9, kHX1_u9⟩) | go_keep)
      (first
        | (go_at_call 10; (with_reducible show Calls _ _ _ u6.drew _); (with_reducible refine (r6.out _ HBz.out.below).mono ?_); rintro e u7 ⟨rfl, hb⟩; have HB_u7 := Kp.mk (HBz.out.step hb); have HA_u7 := Kp.mk (HAz.out.step hb); have HC_u7 := Kp.mk (HCz.out.step hb); have HD_u7 := Kp.mk (HDz.out.step hb); have HY_u7 := Kp.mk (HYz.out.step hb); have HX_u7 := Kp.mk (HXz.out.step hb); have kHA0_u7 := HA_u7.out.c0; have kHA1_u7 := HA_u7.out.c1; have kHC0_u7 := HC_u7.out.c0; have kHC1_u7 := HC_u7.out.c1; have kHD0_u7 := HD_u7.out.c0; have kHD1_u7 := HD_u7.out.c1; have kHY0_u7 := HY_u7.out.c0; have kHY1_u7 := HY_u7.out.c1; have kHX0_u7 := HX_u7.out.c0; have kHX1_u7 := HX_u7.out.c1; clear hb)
        | (go_at_call 11; (with_reducible show Calls _ _ _ u7 _); (with_reducible refine (r7.out _ HB_u7.out.below).mono ?_); rintro e u8 ⟨rfl, hb⟩; have HB_u8 := Kp.mk (HB_u7.out.step hb); have HA_u8 := Kp.mk (HA_u7.out.step hb); have HC_u8 := Kp.mk (HC_u7.out.step hb); have HD_u8 := Kp.mk (HD_u7.out.step hb); have HY_u8 := Kp.mk (HY_u7.out.step hb); have HX_u8 := Kp.mk (HX_u7.out.step hb); have kHA0_u8 := HA_u8.out.c0; have kHA1_u8 := HA_u8.out.c1; have kHC0_u8 := HC_u8.out.c0; have kHC1_u8 := HC_u8.out.c1; have kHD0_u8 := HD_u8.out.c0; have kHD1_u8 := HD_u8.out.c1; have kHY0_u8 := HY_u8.out.c0; have kHY1_u8 := HY_u8.out.c1; have kHX0_u8 := HX_u8.out.c0; have kHX1_u8 := HX_u8.out.c1; clear hb)
        | (go_at_call 12; (with_reducible show Calls _ _ _ u8 _); (with_reducible refine (rl.out _ HB_u8.out.below).mono ?_); rintro e u9 ⟨rfl, hb⟩; have HB_u9 := Kp.mk (HB_u8.out.step hb); have HA_u9 := Kp.mk (HA_u8.out.step hb); have HC_u9 := Kp.mk (HC_u8.out.step hb); have HD_u9 := Kp.mk (HD_u8.out.step hb); have HY_u9 := Kp.mk (HY_u8.out.step hb); have HX_u9 := Kp.mk (HX_u8.out.step hb); have kHA0_u9 := HA_u9.out.c0; have kHA1_u9 := HA_u9.out.c1; have kHC0_u9 := HC_u9.out.c0; have kHC1_u9 := HC_u9.out.c1; have kHD0_u9 := HD_u9.out.c0; have kHD1_u9 := HD_u9.out.c1; have kHY0_u9 := HY_u9.out.c0; have kHY1_u9 := HY_u9.out.c1; have kHX0_u9 := HX_u9.out.c0; have kHX1_u9 := HX_u9.out.c1; clear hb))
    have HB := HB_u9
    have HA := HA_u9
    have HC := HC_u9
    have HD := HD_u9
    have HY := HY_u9
    have HX := HX_u9
    have kHA0 := HA.out.c0
    have kHA1 := HA.out.c1
    have kHC0 := HC.out.c0
    have kHC1 := HC.out.c1
    have kHD0 := HD.out.c0
    have kHD1 := HD.out.c1
    have kHY0 := HY.out.c0
    have kHY1 := HY.out.c1
    have kHX0 := HX.out.c0
    have kHX1 := HX.out.c1
    go_wp2_with fail
    go_ret
    exact ⟨rfl, HB.out.below⟩
set_option maxHeartbeats 8000000 in
theorem lawOrder_mog {I : World → Prop} (C : EndFns I) (f d g e h i : Int) (w : World) (hI : I w) (d0 : -9223372036854775808 ≤ d) (d1 : d ≤ 9223372036854775807) (e0 : -9223372036854775808 ≤ e) (e1 : e ≤ 9223372036854775807) (i0 : -9223372036854775808 ≤ i) (i1 : i ≤ 9223372036854775807) (hn : cmpE f d g e = -1) (hf : ¬ f = g) (hp : ¬ cmpE g e h i ≤ 0) :
    Calls Tryd.prog 3 #[.agg #[.int .i8 f, .int .i64 d], .agg #[.int .i8 g, .int .i64 e], .agg #[.int .i8 h, .int .i64 i]] w fun x w' => x = .returned (.bool true) ∧ Below w.heap.size w w' := by
  have HA := Kp.mk (eb_three w f d g e h i).1
  have HC := Kp.mk (eb_three w f d g e h i).2.1
  have HD := Kp.mk (eb_three w f d g e h i).2.2
  have HB := Kp.mk (Bl.mk HA.out.below)
  have HI := Kp.mk (fun (v : World) (h : Below w.heap.size w v) => C.keep hI h)
  clear hI
  have rl := Kp.mk (fun v (hw : Below w.heap.size w v) => C.lives v (HI.out v hw))
  have hs : cmpE g e f d = 1 := by rw [cmpE_swap, hn]; rfl
  obtain ⟨p, hp2⟩ : ∃ p, cmpE g e h i = p := ⟨_, rfl⟩
  rw [hp2] at hp
  have tp : decide (p ≤ 0) = false := decide_eq_false hp
  have r1 := Kp.mk (fun v (hw : Below w.heap.size w v) => C.cmp v (HI.out v hw) d0 d1 e0 e1 hn)
  have r2 := Kp.mk (fun w => refECmp_is hn w)
  have r3 := Kp.mk (fun v (hw : Below w.heap.size w v) => C.cmp v (HI.out v hw) e0 e1 d0 d1 hs)
  have r4 := Kp.mk (fun v (hw : Below w.heap.size w v) => C.cmp v (HI.out v hw) e0 e1 i0 i1 hp2)
  have r6 := Kp.mk (fun v (hw : Below w.heap.size w v) => C.min_le (f := f) (g := g) v (HI.out v hw) d0 d1 e0 e1 (by omega))
  have r7 := Kp.mk (fun v (hw : Below w.heap.size w v) => C.max_le (f := f) (g := g) v (HI.out v hw) d0 d1 e0 e1 (by omega))
  have t1 : (f == g) = false := by rw [beq_eq_false_iff_ne]; exact hf
  clear C d0 d1 e0 e1 i0 i1 hn hs hp2 hp hf
  go_enter Tryd.func3, Tryd.ntmps3
  go_upto_region 1 with fail
  generalize (((w.alloc (.cells #[.int .i8 f, .int .i64 d] 24)).alloc (.cells #[.int .i8 g, .int .i64 e] 24)).alloc (.cells #[.int .i8 h, .int .i64 i] 24)) = w0 at *
  have kHA0 := HA.out.c0
  have kHA1 := HA.out.c1
  have kHC0 := HC.out.c0
  have kHC1 := HC.out.c1
  have kHD0 := HD.out.c0
  have kHD1 := HD.out.c1
  go_wp2_with fail
  refine (r1.out _ HB.out.below).mono ?_
  rintro e u1 ⟨rfl, hbl⟩
  clear kHA0 kHA1 kHC0 kHC1 kHD0 kHD1
  have HB := Kp.mk (HB.out.step hbl)
  have HA := Kp.mk (HA.out.step hbl)
  have HC := Kp.mk (HC.out.step hbl)
  have HD := Kp.mk (HD.out.step hbl)
  clear hbl
  have kHA0 := HA.out.c0
  have kHA1 := HA.out.c1
  have kHC0 := HC.out.c0
  have kHC1 := HC.out.c1
  have kHD0 := HD.out.c0
  have kHD1 := HD.out.c1
  go_wp2_with fail
  refine (r2.out _).mono ?_
  rintro e u2 ⟨rfl, hbl⟩
  clear kHA0 kHA1 kHC0 kHC1 kHD0 kHD1
  have HB := Kp.mk (HB.out.step hbl)
  have HA := Kp.mk (HA.out.step hbl)
  have HC := Kp.mk (HC.out.step hbl)
  have HD := Kp.mk (HD.out.step hbl)
  clear hbl
  have kHA0 := HA.out.c0
  have kHA1 := HA.out.c1
  have kHC0 := HC.out.c0
  have kHC1 := HC.out.c1
  have kHD0 := HD.out.c0
  have kHD1 := HD.out.c1
  go_wp2_with fail
  refine (r3.out _ HB.out.below).mono ?_
  rintro e u3 ⟨rfl, hbl⟩
  clear kHA0 kHA1 kHC0 kHC1 kHD0 kHD1
  have HB := Kp.mk (HB.out.step hbl)
  have HA := Kp.mk (HA.out.step hbl)
  have HC := Kp.mk (HC.out.step hbl)
  have HD := Kp.mk (HD.out.step hbl)
  clear hbl
  have kHA0 := HA.out.c0
  have kHA1 := HA.out.c1
  have kHC0 := HC.out.c0
  have kHC1 := HC.out.c1
  have kHD0 := HD.out.c0
  have kHD1 := HD.out.c1
  go_wp2_with fail
  refine (r4.out _ HB.out.below).mono ?_
  rintro e u4 ⟨rfl, hbl⟩
  clear kHA0 kHA1 kHC0 kHC1 kHD0 kHD1
  have HB := Kp.mk (HB.out.step hbl)
  have HA := Kp.mk (HA.out.step hbl)
  have HC := Kp.mk (HC.out.step hbl)
  have HD := Kp.mk (HD.out.step hbl)
  clear hbl
  have kHA0 := HA.out.c0
  have kHA1 := HA.out.c1
  have kHC0 := HC.out.c0
  have kHC1 := HC.out.c1
  have kHD0 := HD.out.c0
  have kHD1 := HD.out.c1
  go_upto_region 6 with fail
  have b1 : ∀ o1, Below u4.heap.size u4 (u4.alloc o1).drew := fun o1 => ((Below.refl u4.heap.size u4).alloc (Nat.le_refl _) o1).drew
  have b2 : ∀ o1 o2, Below u4.heap.size u4 ((u4.alloc o1).alloc o2).drew := fun o1 o2 => (((Below.refl u4.heap.size u4).alloc (Nat.le_refl _) o1).alloc (by simp) o2).drew
  have xHA0 : ∀ o1, (u4.alloc o1).drew.cell? ⟨w.heap.size, 0, none⟩ = some (.int .i8 f) := fun o1 => (HA.out.step (b1 o1)).c0
  have yHA0 : ∀ o1 o2, ((u4.alloc o1).alloc o2).drew.cell? ⟨w.heap.size, 0, none⟩ = some (.int .i8 f) := fun o1 o2 => (HA.out.step (b2 o1 o2)).c0
  have xHA1 : ∀ o1, (u4.alloc o1).drew.cell? ⟨w.heap.size, 1, none⟩ = some (.int .i64 d) := fun o1 => (HA.out.step (b1 o1)).c1
  have yHA1 : ∀ o1 o2, ((u4.alloc o1).alloc o2).drew.cell? ⟨w.heap.size, 1, none⟩ = some (.int .i64 d) := fun o1 o2 => (HA.out.step (b2 o1 o2)).c1
  have xHC0 : ∀ o1, (u4.alloc o1).drew.cell? ⟨w.heap.size + 1, 0, none⟩ = some (.int .i8 g) := fun o1 => (HC.out.step (b1 o1)).c0
  have yHC0 : ∀ o1 o2, ((u4.alloc o1).alloc o2).drew.cell? ⟨w.heap.size + 1, 0, none⟩ = some (.int .i8 g) := fun o1 o2 => (HC.out.step (b2 o1 o2)).c0
  have xHC1 : ∀ o1, (u4.alloc o1).drew.cell? ⟨w.heap.size + 1, 1, none⟩ = some (.int .i64 e) := fun o1 => (HC.out.step (b1 o1)).c1
  have yHC1 : ∀ o1 o2, ((u4.alloc o1).alloc o2).drew.cell? ⟨w.heap.size + 1, 1, none⟩ = some (.int .i64 e) := fun o1 o2 => (HC.out.step (b2 o1 o2)).c1
  go_region
  · clear b1 b2 xHA0 yHA0 xHA1 yHA1 xHC0 yHC0 xHC1 yHC1
    clear kHA0 kHA1 kHC0 kHC1 kHD0 kHD1
    have HX := Kp.mk (eb_new f d 24 HB.out.below)
    have hx := eb_new g e 24 HX.out.below
    rw [World.size_alloc] at hx
    have HY := Kp.mk hx
    clear hx
    have HX := Kp.mk (HX.out.step ((Below.refl (u4.alloc (.cells #[.int .i8 f, .int .i64 d] 24)).heap.size _).alloc (Nat.le_refl _) (.cells #[.int .i8 g, .int .i64 e] 24)))
    have hbl := ((Below.refl u4.heap.size u4).alloc (Nat.le_refl _) (.cells #[.int .i8 f, .int .i64 d] 24)).alloc (by simp) (.cells #[.int .i8 g, .int .i64 e] 24)
    have hbl := hbl.drew
    have HX := Kp.mk (HX.out.step (Below.refl ((u4.alloc (.cells #[.int .i8 f, .int .i64 d] 24)).alloc (.cells #[.int .i8 g, .int .i64 e] 24)).heap.size _).drew)
    have HY := Kp.mk (HY.out.step (Below.refl ((u4.alloc (.cells #[.int .i8 f, .int .i64 d] 24)).alloc (.cells #[.int .i8 g, .int .i64 e] 24)).heap.size _).drew)
    have HB := Kp.mk (HB.out.step hbl)
    have HA := Kp.mk (HA.out.step hbl)
    have HC := Kp.mk (HC.out.step hbl)
    have HD := Kp.mk (HD.out.step hbl)
    clear hbl
    generalize (((u4.alloc (.cells #[.int .i8 f, .int .i64 d] 24)).alloc (.cells #[.int .i8 g, .int .i64 e] 24)).drew) = u5 at *
    generalize u4.heap.size = g1 at *
    have kHA0 := HA.out.c0
    have kHA1 := HA.out.c1
    have kHC0 := HC.out.c0
    have kHC1 := HC.out.c1
    have kHD0 := HD.out.c0
    have kHD1 := HD.out.c1
    have kHX0 := HX.out.c0
    have kHX1 := HX.out.c1
    have kHY0 := HY.out.c0
    have kHY1 := HY.out.c1
    go_upto_region 9 with fail
    have hbl := (Below.refl u5.heap.size u5).drew
    have HBz := Kp.mk (HB.out.step hbl)
    have HAz := Kp.mk (HA.out.step hbl)
    have HCz := Kp.mk (HC.out.step hbl)
    have HDz := Kp.mk (HD.out.step hbl)
    have HXz := Kp.mk (HX.out.step hbl)
    have HYz := Kp.mk (HY.out.step hbl)
    have kHA0z := HAz.out.c0
    have kHA1z := HAz.out.c1
    have kHC0z := HCz.out.c0
    have kHC1z := HCz.out.c1
    have kHD0z := HDz.out.c0
    have kHD1z := HDz.out.c1
    have kHX0z := HXz.out.c0
    have kHX1z := HXz.out.c1
    have kHY0z := HYz.out.c0
    have kHY1z := HYz.out.c1
    clear hbl
    go_region_held3 (fun w' => w'.cell? ⟨w.heap.size, 0, none⟩ = some (.int .i8 f) ∧ w'.cell? ⟨w.heap.size, 1, none⟩ = some (.int .i64 d) ∧ w'.cell? ⟨w.heap.size + 1, 0, none⟩ = some (.int .i8 g) ∧ w'.cell? ⟨w.heap.size + 1, 1, none⟩ = some (.int .i64 e) ∧ w'.cell? ⟨w.heap.size + 1 + 1, 0, none⟩ = some (.int .i8 h) ∧ w'.cell? ⟨w.heap.size + 1 + 1, 1, none⟩ = some (.int .i64 i) ∧ w'.cell? ⟨g1, 0, none⟩ = some (.int .i8 f) ∧ w'.cell? ⟨g1, 1, none⟩ = some (.int .i64 d) ∧ w'.cell? ⟨g1 + 1, 0, none⟩ = some (.int .i8 g) ∧ w'.cell? ⟨g1 + 1, 1, none⟩ = some (.int .i64 e)) (first | (with_reducible exact ⟨kHA0, kHA1, kHC0, kHC1, kHD0, kHD1, kHX0, kHX1, kHY0, kHY1⟩) | (with_reducible exact ⟨kHA0z, kHA1z, kHC0z, kHC1z, kHD0z, kHD1z, kHX0z, kHX1z, kHY0z, kHY1z⟩) | (with_reducible exact ⟨kHA0_u6, kHA1_u6, kHC0_u6, kHC1_u6, kHD0_u6, kHD1_u6, kHX0_u6, kHX1_u6, kHY0_u6, kHY1_u6⟩) | (with_reducible exact ⟨kHA0_u7, kHA1_u7, kHC0_u7, kHC1_u7, kHD0_u7, kHD1_u7, kHX0_u7, kHX1_u7, kHY0_u7, kHY1_u7⟩) | (with_reducible exact ⟨kHA0_u8, kHA1_u8, kHC0_u8, kHC1_u8, kHD0_u8, kHD1_u8, kHX0_u8, kHX1_u8, kHY0_u8, kHY1_u8⟩) | go_keep)
      (first
        | (go_at_call 10; (with_reducible show Calls _ _ _ u5.drew _); (with_reducible refine (r6.out _ HBz.out.below).mono ?_); rintro e u6 ⟨rfl, hb⟩; have HB_u6 := Kp.mk (HBz.out.step hb); have HA_u6 := Kp.mk (HAz.out.step hb); have HC_u6 := Kp.mk (HCz.out.step hb); have HD_u6 := Kp.mk (HDz.out.step hb); have HX_u6 := Kp.mk (HXz.out.step hb); have HY_u6 := Kp.mk (HYz.out.step hb); have kHA0_u6 := HA_u6.out.c0; have kHA1_u6 := HA_u6.out.c1; have kHC0_u6 := HC_u6.out.c0; have kHC1_u6 := HC_u6.out.c1; have kHD0_u6 := HD_u6.out.c0; have kHD1_u6 := HD_u6.out.c1; have kHX0_u6 := HX_u6.out.c0; have kHX1_u6 := HX_u6.out.c1; have kHY0_u6 := HY_u6.out.c0; have kHY1_u6 := HY_u6.out.c1; clear hb)
        | (go_at_call 11; (with_reducible show Calls _ _ _ u6 _); (with_reducible refine (r7.out _ HB_u6.out.below).mono ?_); rintro e u7 ⟨rfl, hb⟩; have HB_u7 := Kp.mk (HB_u6.out.step hb); have HA_u7 := Kp.mk (HA_u6.out.step hb); have HC_u7 := Kp.mk (HC_u6.out.step hb); have HD_u7 := Kp.mk (HD_u6.out.step hb); have HX_u7 := Kp.mk (HX_u6.out.step hb); have HY_u7 := Kp.mk (HY_u6.out.step hb); have kHA0_u7 := HA_u7.out.c0; have kHA1_u7 := HA_u7.out.c1; have kHC0_u7 := HC_u7.out.c0; have kHC1_u7 := HC_u7.out.c1; have kHD0_u7 := HD_u7.out.c0; have kHD1_u7 := HD_u7.out.c1; have kHX0_u7 := HX_u7.out.c0; have kHX1_u7 := HX_u7.out.c1; have kHY0_u7 := HY_u7.out.c0; have kHY1_u7 := HY_u7.out.c1; clear hb)
        | (go_at_call 12; (with_reducible show Calls _ _ _ u7 _); (with_reducible refine (rl.out _ HB_u7.out.below).mono ?_); rintro e u8 ⟨rfl, hb⟩; have HB_u8 := Kp.mk (HB_u7.out.step hb); have HA_u8 := Kp.mk (HA_u7.out.step hb); have HC_u8 := Kp.mk (HC_u7.out.step hb); have HD_u8 := Kp.mk (HD_u7.out.step hb); have HX_u8 := Kp.mk (HX_u7.out.step hb); have HY_u8 := Kp.mk (HY_u7.out.step hb); have kHA0_u8 := HA_u8.out.c0; have kHA1_u8 := HA_u8.out.c1; have kHC0_u8 := HC_u8.out.c0; have kHC1_u8 := HC_u8.out.c1; have kHD0_u8 := HD_u8.out.c0; have kHD1_u8 := HD_u8.out.c1; have kHX0_u8 := HX_u8.out.c0; have kHX1_u8 := HX_u8.out.c1; have kHY0_u8 := HY_u8.out.c0; have kHY1_u8 := HY_u8.out.c1; clear hb))
    have HB := HB_u8
    have HA := HA_u8
    have HC := HC_u8
    have HD := HD_u8
    have HX := HX_u8
    have HY := HY_u8
    have kHA0 := HA.out.c0
    have kHA1 := HA.out.c1
    have kHC0 := HC.out.c0
    have kHC1 := HC.out.c1
    have kHD0 := HD.out.c0
    have kHD1 := HD.out.c1
    have kHX0 := HX.out.c0
    have kHX1 := HX.out.c1
    have kHY0 := HY.out.c0
    have kHY1 := HY.out.c1
    go_wp2_with fail
    go_ret
    exact ⟨rfl, HB.out.below⟩
  · clear b1 b2 xHA0 yHA0 xHA1 yHA1 xHC0 yHC0 xHC1 yHC1
    clear kHA0 kHA1 kHC0 kHC1 kHD0 kHD1
    have HY := Kp.mk (eb_new g e 24 HB.out.below)
    have hx := eb_new f d 24 HY.out.below
    rw [World.size_alloc] at hx
    have HX := Kp.mk hx
    clear hx
    have HY := Kp.mk (HY.out.step ((Below.refl (u4.alloc (.cells #[.int .i8 g, .int .i64 e] 24)).heap.size _).alloc (Nat.le_refl _) (.cells #[.int .i8 f, .int .i64 d] 24)))
    have hbl := ((Below.refl u4.heap.size u4).alloc (Nat.le_refl _) (.cells #[.int .i8 g, .int .i64 e] 24)).alloc (by simp) (.cells #[.int .i8 f, .int .i64 d] 24)
    have hbl := hbl.drew
    have HY := Kp.mk (HY.out.step (Below.refl ((u4.alloc (.cells #[.int .i8 g, .int .i64 e] 24)).alloc (.cells #[.int .i8 f, .int .i64 d] 24)).heap.size _).drew)
    have HX := Kp.mk (HX.out.step (Below.refl ((u4.alloc (.cells #[.int .i8 g, .int .i64 e] 24)).alloc (.cells #[.int .i8 f, .int .i64 d] 24)).heap.size _).drew)
    have HB := Kp.mk (HB.out.step hbl)
    have HA := Kp.mk (HA.out.step hbl)
    have HC := Kp.mk (HC.out.step hbl)
    have HD := Kp.mk (HD.out.step hbl)
    clear hbl
    generalize (((u4.alloc (.cells #[.int .i8 g, .int .i64 e] 24)).alloc (.cells #[.int .i8 f, .int .i64 d] 24)).drew) = u5 at *
    generalize u4.heap.size = g1 at *
    have kHA0 := HA.out.c0
    have kHA1 := HA.out.c1
    have kHC0 := HC.out.c0
    have kHC1 := HC.out.c1
    have kHD0 := HD.out.c0
    have kHD1 := HD.out.c1
    have kHY0 := HY.out.c0
    have kHY1 := HY.out.c1
    have kHX0 := HX.out.c0
    have kHX1 := HX.out.c1
    go_upto_region 9 with fail
    have hbl := (Below.refl u5.heap.size u5).drew
    have HBz := Kp.mk (HB.out.step hbl)
    have HAz := Kp.mk (HA.out.step hbl)
    have HCz := Kp.mk (HC.out.step hbl)
    have HDz := Kp.mk (HD.out.step hbl)
    have HYz := Kp.mk (HY.out.step hbl)
    have HXz := Kp.mk (HX.out.step hbl)
    have kHA0z := HAz.out.c0
    have kHA1z := HAz.out.c1
    have kHC0z := HCz.out.c0
    have kHC1z := HCz.out.c1
    have kHD0z := HDz.out.c0
    have kHD1z := HDz.out.c1
    have kHY0z := HYz.out.c0
    have kHY1z := HYz.out.c1
    have kHX0z := HXz.out.c0
    have kHX1z := HXz.out.c1
    clear hbl
    go_region_held3 (fun w' => w'.cell? ⟨w.heap.size, 0, none⟩ = some (.int .i8 f) ∧ w'.cell? ⟨w.heap.size, 1, none⟩ = some (.int .i64 d) ∧ w'.cell? ⟨w.heap.size + 1, 0, none⟩ = some (.int .i8 g) ∧ w'.cell? ⟨w.heap.size + 1, 1, none⟩ = some (.int .i64 e) ∧ w'.cell? ⟨w.heap.size + 1 + 1, 0, none⟩ = some (.int .i8 h) ∧ w'.cell? ⟨w.heap.size + 1 + 1, 1, none⟩ = some (.int .i64 i) ∧ w'.cell? ⟨g1, 0, none⟩ = some (.int .i8 g) ∧ w'.cell? ⟨g1, 1, none⟩ = some (.int .i64 e) ∧ w'.cell? ⟨g1 + 1, 0, none⟩ = some (.int .i8 f) ∧ w'.cell? ⟨g1 + 1, 1, none⟩ = some (.int .i64 d)) (first | (with_reducible exact ⟨kHA0, kHA1, kHC0, kHC1, kHD0, kHD1, kHY0, kHY1, kHX0, kHX1⟩) | (with_reducible exact ⟨kHA0z, kHA1z, kHC0z, kHC1z, kHD0z, kHD1z, kHY0z, kHY1z, kHX0z, kHX1z⟩) | (with_reducible exact ⟨kHA0_u6, kHA1_u6, kHC0_u6, kHC1_u6, kHD0_u6, kHD1_u6, kHY0_u6, kHY1_u6, kHX0_u6, kHX1_u6⟩) | (with_reducible exact ⟨kHA0_u7, kHA1_u7, kHC0_u7, kHC1_u7, kHD0_u7, kHD1_u7, kHY0_u7, kHY1_u7, kHX0_u7, kHX1_u7⟩) | (with_reducible exact ⟨kHA0_u8, kHA1_u8, kHC0_u8, kHC1_u8, kHD0_u8, kHD1_u8, kHY0_u8, kHY1_u8, kHX0_u8, kHX1_u8⟩) | go_keep)
      (first
        | (go_at_call 10; (with_reducible show Calls _ _ _ u5.drew _); (with_reducible refine (r6.out _ HBz.out.below).mono ?_); rintro e u6 ⟨rfl, hb⟩; have HB_u6 := Kp.mk (HBz.out.step hb); have HA_u6 := Kp.mk (HAz.out.step hb); have HC_u6 := Kp.mk (HCz.out.step hb); have HD_u6 := Kp.mk (HDz.out.step hb); have HY_u6 := Kp.mk (HYz.out.step hb); have HX_u6 := Kp.mk (HXz.out.step hb); have kHA0_u6 := HA_u6.out.c0; have kHA1_u6 := HA_u6.out.c1; have kHC0_u6 := HC_u6.out.c0; have kHC1_u6 := HC_u6.out.c1; have kHD0_u6 := HD_u6.out.c0; have kHD1_u6 := HD_u6.out.c1; have kHY0_u6 := HY_u6.out.c0; have kHY1_u6 := HY_u6.out.c1; have kHX0_u6 := HX_u6.out.c0; have kHX1_u6 := HX_u6.out.c1; clear hb)
        | (go_at_call 11; (with_reducible show Calls _ _ _ u6 _); (with_reducible refine (r7.out _ HB_u6.out.below).mono ?_); rintro e u7 ⟨rfl, hb⟩; have HB_u7 := Kp.mk (HB_u6.out.step hb); have HA_u7 := Kp.mk (HA_u6.out.step hb); have HC_u7 := Kp.mk (HC_u6.out.step hb); have HD_u7 := Kp.mk (HD_u6.out.step hb); have HY_u7 := Kp.mk (HY_u6.out.step hb); have HX_u7 := Kp.mk (HX_u6.out.step hb); have kHA0_u7 := HA_u7.out.c0; have kHA1_u7 := HA_u7.out.c1; have kHC0_u7 := HC_u7.out.c0; have kHC1_u7 := HC_u7.out.c1; have kHD0_u7 := HD_u7.out.c0; have kHD1_u7 := HD_u7.out.c1; have kHY0_u7 := HY_u7.out.c0; have kHY1_u7 := HY_u7.out.c1; have kHX0_u7 := HX_u7.out.c0; have kHX1_u7 := HX_u7.out.c1; clear hb)
        | (go_at_call 12; (with_reducible show Calls _ _ _ u7 _); (with_reducible refine (rl.out _ HB_u7.out.below).mono ?_); rintro e u8 ⟨rfl, hb⟩; have HB_u8 := Kp.mk (HB_u7.out.step hb); have HA_u8 := Kp.mk (HA_u7.out.step hb); have HC_u8 := Kp.mk (HC_u7.out.step hb); have HD_u8 := Kp.mk (HD_u7.out.step hb); have HY_u8 := Kp.mk (HY_u7.out.step hb); have HX_u8 := Kp.mk (HX_u7.out.step hb); have kHA0_u8 := HA_u8.out.c0; have kHA1_u8 := HA_u8.out.c1; have kHC0_u8 := HC_u8.out.c0; have kHC1_u8 := HC_u8.out.c1; have kHD0_u8 := HD_u8.out.c0; have kHD1_u8 := HD_u8.out.c1; have kHY0_u8 := HY_u8.out.c0; have kHY1_u8 := HY_u8.out.c1; have kHX0_u8 := HX_u8.out.c0; have kHX1_u8 := HX_u8.out.c1; clear hb))
    have HB := HB_u8
    have HA := HA_u8
    have HC := HC_u8
    have HD := HD_u8
    have HY := HY_u8
    have HX := HX_u8
    have kHA0 := HA.out.c0
    have kHA1 := HA.out.c1
    have kHC0 := HC.out.c0
    have kHC1 := HC.out.c1
    have kHD0 := HD.out.c0
    have kHD1 := HD.out.c1
    have kHY0 := HY.out.c0
    have kHY1 := HY.out.c1
    have kHX0 := HX.out.c0
    have kHX1 := HX.out.c1
    go_wp2_with fail
    go_ret
    exact ⟨rfl, HB.out.below⟩
end Go.Proofs.YtbnlomjlapnoaaaDoor
