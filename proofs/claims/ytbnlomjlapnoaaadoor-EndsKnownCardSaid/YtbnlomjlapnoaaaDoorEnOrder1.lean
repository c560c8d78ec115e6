/-
  DERIVED. WALK of the law EndsOrder, given the contracts of package ends: the first end is the greater. Written by mken5.py.
-/
import Derived.Test.YtbnlomjlapnoaaaDoorEnOrder0
import Derived.Test.YtbnlomjlapnoaaaDoorEnSet
import Derived.Test.YtbnlomjlapnoaaaDoorHand
namespace Go.Proofs.YtbnlomjlapnoaaaDoor
open Go.RowKit
set_option maxRecDepth 100000

set_option maxHeartbeats 8000000 in
theorem lawOrder_po {I : World → Prop} (C : EndFns I) (f d g e h i : Int) (w : World) (hI : I w) (d0 : -9223372036854775808 ≤ d) (d1 : d ≤ 9223372036854775807) (e0 : -9223372036854775808 ≤ e) (e1 : e ≤ 9223372036854775807) (hn : cmpE f d g e = 1) (hf : ¬ f = g) :
    Calls Tryd.prog 3 #[.agg #[.int .i8 f, .int .i64 d], .agg #[.int .i8 g, .int .i64 e], .agg #[.int .i8 h, .int .i64 i]] w fun x w' => x = .returned (.bool true) ∧ Below w.heap.size w w' := by
  have HA := Kp.mk (eb_three w f d g e h i).1
  have HC := Kp.mk (eb_three w f d g e h i).2.1
  have HD := Kp.mk (eb_three w f d g e h i).2.2
  have HB := Kp.mk (Bl.mk HA.out.below)
  have HI := Kp.mk (fun (v : World) (h : Below w.heap.size w v) => C.keep hI h)
  clear hI
  have rl := Kp.mk (fun v (hw : Below w.heap.size w v) => C.lives v (HI.out v hw))
  have hs : cmpE g e f d = -1 := by rw [cmpE_swap, hn]
  have r1 := Kp.mk (fun v (hw : Below w.heap.size w v) => C.cmp v (HI.out v hw) d0 d1 e0 e1 hn)
  have r2 := Kp.mk (fun w => refECmp_is hn w)
  have r3 := Kp.mk (fun v (hw : Below w.heap.size w v) => C.cmp v (HI.out v hw) e0 e1 d0 d1 hs)
  have r6 := Kp.mk (fun v (hw : Below w.heap.size w v) => C.min_gt (f := f) (g := g) v (HI.out v hw) d0 d1 e0 e1 (by omega))
  have r7 := Kp.mk (fun v (hw : Below w.heap.size w v) => C.max_gt (f := f) (g := g) v (HI.out v hw) d0 d1 e0 e1 (by omega))
  have t1 : (f == g) = false := by rw [beq_eq_false_iff_ne]; exact hf
  clear C d0 d1 e0 e1 hn hs hf
  go_enter Tryd.func3, Tryd.ntmps3
  go_upto_region 1 with fail
  generalize (((w.alloc (.cells #[.int .i8 f, .int .i64 d] 24)).alloc (.cells #[.int .i8 g, .int .i64 e] 24)).alloc (.cells #[.int .i8 h, .int .i64 i] 24)) = w0 at *
  have kHA0 := HA.out.c0
  have kHA1 := HA.out.c1
  have kHC0 := HC.out.c0
  have kHC1 := HC.out.c1
  have kHD0 := HD.out.c0
  have kHD1 := HD.out.c1
  go_wp2_with fail
  refine (r1.out _ HB.out.below).mono ?_
  rintro e u1 ⟨rfl, hbl⟩
  clear kHA0 kHA1 kHC0 kHC1 kHD0 kHD1
  have HB := Kp.mk (HB.out.step hbl)
  have HA := Kp.mk (HA.out.step hbl)
  have HC := Kp.mk (HC.out.step hbl)
  have HD := Kp.mk (HD.out.step hbl)
  clear hbl
  have kHA0 := HA.out.c0
  have kHA1 := HA.out.c1
  have kHC0 := HC.out.c0
  have kHC1 := HC.out.c1
  have kHD0 := HD.out.c0
  have kHD1 := HD.out.c1
  go_wp2_with fail
  refine (r2.out _).mono ?_
  rintro e u2 ⟨rfl, hbl⟩
  clear kHA0 kHA1 kHC0 kHC1 kHD0 kHD1
  have HB := Kp.mk (HB.out.step hbl)
  have HA := Kp.mk (HA.out.step hbl)
  have HC := Kp.mk (HC.out.step hbl)
  have HD := Kp.mk (HD.out.step hbl)
  clear hbl
  have kHA0 := HA.out.c0
  have kHA1 := HA.out.c1
  have kHC0 := HC.out.c0
  have kHC1 := HC.out.c1
  have kHD0 := HD.out.c0
  have kHD1 := HD.out.c1
  go_wp2_with fail
  refine (r3.out _ HB.out.below).mono ?_
  rintro e u3 ⟨rfl, hbl⟩
  clear kHA0 kHA1 kHC0 kHC1 kHD0 kHD1
  have HB := Kp.mk (HB.out.step hbl)
  have HA := Kp.mk (HA.out.step hbl)
  have HC := Kp.mk (HC.out.step hbl)
  have HD := Kp.mk (HD.out.step hbl)
  clear hbl
  have kHA0 := HA.out.c0
  have kHA1 := HA.out.c1
  have kHC0 := HC.out.c0
  have kHC1 := HC.out.c1
  have kHD0 := HD.out.c0
  have kHD1 := HD.out.c1
  go_upto_region 6 with fail
  clear kHA0 kHA1 kHC0 kHC1 kHD0 kHD1
  clear HD
  have kHA0 := HA.out.c0
  have kHA1 := HA.out.c1
  have kHC0 := HC.out.c0
  have kHC1 := HC.out.c1
  have b1 : ∀ o1, Below u3.heap.size u3 (u3.alloc o1).drew := fun o1 => ((Below.refl u3.heap.size u3).alloc (Nat.le_refl _) o1).drew
  have b2 : ∀ o1 o2, Below u3.heap.size u3 ((u3.alloc o1).alloc o2).drew := fun o1 o2 => (((Below.refl u3.heap.size u3).alloc (Nat.le_refl _) o1).alloc (by simp) o2).drew
  have xHA0 : ∀ o1, (u3.alloc o1).drew.cell? ⟨w.heap.size, 0, none⟩ = some (.int .i8 f) := fun o1 => (HA.out.step (b1 o1)).c0
  have yHA0 : ∀ o1 o2, ((u3.alloc o1).alloc o2).drew.cell? ⟨w.heap.size, 0, none⟩ = some (.int .i8 f) := fun o1 o2 => (HA.out.step (b2 o1 o2)).c0
  have xHA1 : ∀ o1, (u3.alloc o1).drew.cell? ⟨w.heap.size, 1, none⟩ = some (.int .i64 d) := fun o1 => (HA.out.step (b1 o1)).c1
  have yHA1 : ∀ o1 o2, ((u3.alloc o1).alloc o2).drew.cell? ⟨w.heap.size, 1, none⟩ = some (.int .i64 d) := fun o1 o2 => (HA.out.step (b2 o1 o2)).c1
  have xHC0 : ∀ o1, (u3.alloc o1).drew.cell? ⟨w.heap.size + 1, 0, none⟩ = some (.int .i8 g) := fun o1 => (HC.out.step (b1 o1)).c0
  have yHC0 : ∀ o1 o2, ((u3.alloc o1).alloc o2).drew.cell? ⟨w.heap.size + 1, 0, none⟩ = some (.int .i8 g) := fun o1 o2 => (HC.out.step (b2 o1 o2)).c0
  have xHC1 : ∀ o1, (u3.alloc o1).drew.cell? ⟨w.heap.size + 1, 1, none⟩ = some (.int .i64 e) := fun o1 => (HC.out.step (b1 o1)).c1
  have yHC1 : ∀ o1 o2, ((u3.alloc o1).alloc o2).drew.cell? ⟨w.heap.size + 1, 1, none⟩ = some (.int .i64 e) := fun o1 o2 => (HC.out.step (b2 o1 o2)).c1
  have sB := Kp.mk HB.out.below.size
  have sA := Kp.mk HA.out.size
  have sC := Kp.mk HC.out.size
  go_region
  · clear b1 b2 xHA0 yHA0 xHA1 yHA1 xHC0 yHC0 xHC1 yHC1
    clear kHA0 kHA1 kHC0 kHC1
    have HX := Kp.mk (ew_new f d 24 HB.out.below)
    have hx := ew_new g e 24 HX.out.below
    rw [World.size_alloc] at hx
    have HY := Kp.mk hx
    clear hx
    have HX := Kp.mk (HX.out.step ((Below.refl (u3.alloc (.cells #[.int .i8 f, .int .i64 d] 24)).heap.size _).alloc (Nat.le_refl _) (.cells #[.int .i8 g, .int .i64 e] 24)))
    have hbl := ((Below.refl u3.heap.size u3).alloc (Nat.le_refl _) (.cells #[.int .i8 f, .int .i64 d] 24)).alloc (by simp) (.cells #[.int .i8 g, .int .i64 e] 24)
    have hbl := hbl.drew
    have HX := Kp.mk (HX.out.step (Below.refl ((u3.alloc (.cells #[.int .i8 f, .int .i64 d] 24)).alloc (.cells #[.int .i8 g, .int .i64 e] 24)).heap.size _).drew)
    have HY := Kp.mk (HY.out.step (Below.refl ((u3.alloc (.cells #[.int .i8 f, .int .i64 d] 24)).alloc (.cells #[.int .i8 g, .int .i64 e] 24)).heap.size _).drew)
    have HB := Kp.mk (HB.out.step hbl)
    have HA := Kp.mk (HA.out.step hbl)
    have HC := Kp.mk (HC.out.step hbl)
    clear hbl
    generalize (((u3.alloc (.cells #[.int .i8 f, .int .i64 d] 24)).alloc (.cells #[.int .i8 g, .int .i64 e] 24)).drew) = u4 at *
    generalize u3.heap.size = g1 at *
    have kHA0 := HA.out.c0
    have kHA1 := HA.out.c1
    have kHC0 := HC.out.c0
    have kHC1 := HC.out.c1
    have kHX0 := HX.out.c0
    have kHX1 := HX.out.c1
    have kHY0 := HY.out.c0
    have kHY1 := HY.out.c1
    go_upto_region 8 with fail
    have hbl := (Below.refl u4.heap.size u4).drew
    have HAz := Kp.mk (HA.out.step hbl)
    have kHA0z := HAz.out.c0
    have kHA1z := HAz.out.c1
    have HCz := Kp.mk (HC.out.step hbl)
    have kHC0z := HCz.out.c0
    have kHC1z := HCz.out.c1
    have HXz := Kp.mk (HX.out.step hbl)
    have kHX0z := HXz.out.c0
    have kHX1z := HXz.out.c1
    have HYz := Kp.mk (HY.out.step hbl)
    have kHY0z := HYz.out.c0
    have kHY1z := HYz.out.c1
    have lHX0 := HX.out.f0
    have lHX1 := HX.out.f1
    have lHY0 := HY.out.f0
    have lHY1 := HY.out.f1
    clear hbl
    refine wp_region_held_drew (S := fun w' => w'.cell? ⟨w.heap.size, 0, none⟩ = some (.int .i8 f) ∧ w'.cell? ⟨w.heap.size, 1, none⟩ = some (.int .i64 d) ∧ w'.cell? ⟨w.heap.size + 1, 0, none⟩ = some (.int .i8 g) ∧ w'.cell? ⟨w.heap.size + 1, 1, none⟩ = some (.int .i64 e)) (by kernel_rfl) ?_ (fun hHeld => ?_)
    · with_reducible exact ⟨kHA0z, kHA1z, kHC0z, kHC1z⟩
    refine takeIn (i := 0) (v := ?_) rfl (by kernel_rfl) (by kernel_rfl) (by kernel_rfl) (fun _ _ _ h => h) (by rfl) hHeld ?_ ?_
    rotate_left
    · (intro w hSw; (try dsimp only at hSw); go_simp; try with_reducible rfl)
    try simp only [Act.put, List.setIfInBounds_toArray, List.set_cons_zero, List.set_cons_succ]
    refine takeIn (i := 1) (v := ?_) rfl (by kernel_rfl) (by kernel_rfl) (by kernel_rfl) (fun _ _ _ h => h) (by rfl) hHeld ?_ ?_
    rotate_left
    · (intro w hSw; (try dsimp only at hSw); go_simp; try with_reducible rfl)
    try simp only [Act.put, List.setIfInBounds_toArray, List.set_cons_zero, List.set_cons_succ]
    refine wpAnyH_ready (rs := [2]) (by kernel_rfl) (by simp) ?_
    refine AllReadyH.cons (dropAt rfl) (fun K hK => ?_) AllReadyH.nil
    clear kHA0z kHA1z kHC0z kHC1z kHX0z kHX1z kHY0z kHY1z kHA0 kHA1 kHC0 kHC1
    have base := Kp.mk sB.out
    have nA : ¬ w.heap.size = g1 := fun x => by have := sA.out; omega
    have nA1 : ¬ w.heap.size = g1 + 1 := fun x => by have := sA.out; omega
    have nC : ¬ w.heap.size + 1 = g1 := fun x => by have := sC.out; omega
    have nC1 : ¬ w.heap.size + 1 = g1 + 1 := fun x => by have := sC.out; omega
    have nA := Kp.mk nA
    have nA1 := Kp.mk nA1
    have nC := Kp.mk nC
    have nC1 := Kp.mk nC1
    go_simp
    clear kHX0 lHX0
    clear kHY0 lHY0
    clear kHX1 lHX1
    clear kHY1 lHY1
    have bs0 : w.heap.size ≤ g1 := by have := base.out; omega
    have HB : Kp (Bl w ((u4.setCell ⟨g1, 0, none⟩ (.int .i8 g)).setCell ⟨g1, 1, none⟩ (.int .i64 e))) := Kp.mk (Bl.mk (below_set2 HB.out.below bs0 g e))
    have HA : Kp (Eb w (w.heap.size) f d ((u4.setCell ⟨g1, 0, none⟩ (.int .i8 g)).setCell ⟨g1, 1, none⟩ (.int .i64 e))) := Kp.mk (HA.out.other nA.out bs0 g e)
    have HC : Kp (Eb w (w.heap.size + 1) g e ((u4.setCell ⟨g1, 0, none⟩ (.int .i8 g)).setCell ⟨g1, 1, none⟩ (.int .i64 e))) := Kp.mk (HC.out.other nC.out bs0 g e)
    have HX : Kp (Ew w (g1) g e ((u4.setCell ⟨g1, 0, none⟩ (.int .i8 g)).setCell ⟨g1, 1, none⟩ (.int .i64 e))) := Kp.mk (HX.out.set bs0 g e)
    have HY : Kp (Ew w (g1 + 1) g e ((u4.setCell ⟨g1, 0, none⟩ (.int .i8 g)).setCell ⟨g1, 1, none⟩ (.int .i64 e))) := Kp.mk (HY.out.other (by omega) bs0 g e)
    clear bs0
    generalize ((u4.setCell ⟨g1, 0, none⟩ (.int .i8 g)).setCell ⟨g1, 1, none⟩ (.int .i64 e)) = v1 at *
    refine hK.out _ _ ?_ (fun hHeld => ?_)
    · exact ⟨(HA.out.step (Below.refl v1.heap.size v1).drew).c0, (HA.out.step (Below.refl v1.heap.size v1).drew).c1, (HC.out.step (Below.refl v1.heap.size v1).drew).c0, (HC.out.step (Below.refl v1.heap.size v1).drew).c1⟩
    clear hK K
    try simp only [Act.put, List.setIfInBounds_toArray, List.set_cons_zero, List.set_cons_succ]
    have kHY0 := HY.out.c0
    have lHY0 := HY.out.f0
    have kHY1 := HY.out.c1
    have lHY1 := HY.out.f1
    refine wpAnyH_ready (rs := [3]) (by kernel_rfl) (by simp) ?_
    refine AllReadyH.cons (dropAt rfl) (fun K hK => ?_) AllReadyH.nil
    go_simp
    clear kHY0 lHY0
    clear kHY1 lHY1
    have bs0 : w.heap.size ≤ g1 + 1 := by have := base.out; omega
    have HB : Kp (Bl w ((v1.setCell ⟨g1 + 1, 0, none⟩ (.int .i8 f)).setCell ⟨g1 + 1, 1, none⟩ (.int .i64 d))) := Kp.mk (Bl.mk (below_set2 HB.out.below bs0 f d))
    have HA : Kp (Eb w (w.heap.size) f d ((v1.setCell ⟨g1 + 1, 0, none⟩ (.int .i8 f)).setCell ⟨g1 + 1, 1, none⟩ (.int .i64 d))) := Kp.mk (HA.out.other nA1.out bs0 f d)
    have HC : Kp (Eb w (w.heap.size + 1) g e ((v1.setCell ⟨g1 + 1, 0, none⟩ (.int .i8 f)).setCell ⟨g1 + 1, 1, none⟩ (.int .i64 d))) := Kp.mk (HC.out.other nC1.out bs0 f d)
    have HY : Kp (Ew w (g1 + 1) f d ((v1.setCell ⟨g1 + 1, 0, none⟩ (.int .i8 f)).setCell ⟨g1 + 1, 1, none⟩ (.int .i64 d))) := Kp.mk (HY.out.set bs0 f d)
    have HX : Kp (Ew w (g1) g e ((v1.setCell ⟨g1 + 1, 0, none⟩ (.int .i8 f)).setCell ⟨g1 + 1, 1, none⟩ (.int .i64 d))) := Kp.mk (HX.out.other (by omega) bs0 f d)
    clear bs0
    generalize ((v1.setCell ⟨g1 + 1, 0, none⟩ (.int .i8 f)).setCell ⟨g1 + 1, 1, none⟩ (.int .i64 d)) = v2 at *
    refine hK.out _ _ ?_ (fun hHeld => ?_)
    · exact ⟨(HA.out.step (Below.refl v2.heap.size v2).drew).c0, (HA.out.step (Below.refl v2.heap.size v2).drew).c1, (HC.out.step (Below.refl v2.heap.size v2).drew).c0, (HC.out.step (Below.refl v2.heap.size v2).drew).c1⟩
    clear hK K
    try simp only [Act.put, List.setIfInBounds_toArray, List.set_cons_zero, List.set_cons_succ]
    refine wpAnyH_done (by kernel_rfl) ?_ _
    clear hHeld
    have hbl := (Below.refl v2.heap.size v2).drew
    have HB := Kp.mk (HB.out.step hbl)
    have HA := Kp.mk (HA.out.step hbl)
    have HC := Kp.mk (HC.out.step hbl)
    have HX := Kp.mk (HX.out.step hbl)
    have HY := Kp.mk (HY.out.step hbl)
    clear hbl
    generalize v2.drew = v3 at *
    have kHA0 := HA.out.c0
    have kHA1 := HA.out.c1
    have kHC0 := HC.out.c0
    have kHC1 := HC.out.c1
    have kHX0 := HX.out.c0
    have kHX1 := HX.out.c1
    have kHY0 := HY.out.c0
    have kHY1 := HY.out.c1
    go_upto_region 9 with fail
    have hbl := (Below.refl v3.heap.size v3).drew
    have HBz := Kp.mk (HB.out.step hbl)
    have HAz := Kp.mk (HA.out.step hbl)
    have HCz := Kp.mk (HC.out.step hbl)
    have HXz := Kp.mk (HX.out.step hbl)
    have HYz := Kp.mk (HY.out.step hbl)
    have kHA0z := HAz.out.c0
    have kHA1z := HAz.out.c1
    have kHC0z := HCz.out.c0
    have kHC1z := HCz.out.c1
    have kHX0z := HXz.out.c0
    have kHX1z := HXz.out.c1
    have kHY0z := HYz.out.c0
    have kHY1z := HYz.out.c1
    clear hbl
    go_region_held3 (fun w' => w'.cell? ⟨w.heap.size, 0, none⟩ = some (.int .i8 f) ∧ w'.cell? ⟨w.heap.size, 1, none⟩ = some (.int .i64 d) ∧ w'.cell? ⟨w.heap.size + 1, 0, none⟩ = some (.int .i8 g) ∧ w'.cell? ⟨w.heap.size + 1, 1, none⟩ = some (.int .i64 e) ∧ w'.cell? ⟨g1, 0, none⟩ = some (.int .i8 g) ∧ w'.cell? ⟨g1, 1, none⟩ = some (.int .i64 e) ∧ w'.cell? ⟨g1 + 1, 0, none⟩ = some (.int .i8 f) ∧ w'.cell? ⟨g1 + 1, 1, none⟩ = some (.int .i64 d)) (first | (with_reducible exact ⟨kHA0, kHA1, kHC0, kHC1, kHX0, kHX1, kHY0, kHY1⟩) | (with_reducible exact ⟨kHA0z, kHA1z, kHC0z, kHC1z, kHX0z, kHX1z, kHY0z, kHY1z⟩) | (with_reducible exact ⟨kHA0_u5, kHA1_u5, kHC0_u5, kHC1_u5, kHX0_u5, kHX1_u5, kHY0_u5, kHY1_u5⟩) | (with_reducible exact ⟨kHA0_u6, kHA1_u6, kHC0_u6, kHC1_u6, kHX0_u6, kHX1_u6, kHY0_u6, kHY1_u6⟩) | (with_reducible exact ⟨kHA0_u7, kHA1_u7, kHC0_u7, kHC1_u7, kHX0_u7, kHX1_u7, kHY0_u7, kHY1_u7⟩) | go_keep)
      (first
        | (go_at_call 10; (with_reducible show Calls _ _ _ v3.drew _); (with_reducible refine (r6.out _ HBz.out.below).mono ?_); rintro e u5 ⟨rfl, hb⟩; have HB_u5 := Kp.mk (HBz.out.step hb); have HA_u5 := Kp.mk (HAz.out.step hb); have HC_u5 := Kp.mk (HCz.out.step hb); have HX_u5 := Kp.mk (HXz.out.step hb); have HY_u5 := Kp.mk (HYz.out.step hb); have kHA0_u5 := HA_u5.out.c0; have kHA1_u5 := HA_u5.out.c1; have kHC0_u5 := HC_u5.out.c0; have kHC1_u5 := HC_u5.out.c1; have kHX0_u5 := HX_u5.out.c0; have kHX1_u5 := HX_u5.out.c1; have kHY0_u5 := HY_u5.out.c0; have kHY1_u5 := HY_u5.out.c1; clear hb)
        | (go_at_call 11; (with_reducible show Calls _ _ _ u5 _); (with_reducible refine (r7.out _ HB_u5.out.below).mono ?_); rintro e u6 ⟨rfl, hb⟩; have HB_u6 := Kp.mk (HB_u5.out.step hb); have HA_u6 := Kp.mk (HA_u5.out.step hb); have HC_u6 := Kp.mk (HC_u5.out.step hb); have HX_u6 := Kp.mk (HX_u5.out.step hb); have HY_u6 := Kp.mk (HY_u5.out.step hb); have kHA0_u6 := HA_u6.out.c0; have kHA1_u6 := HA_u6.out.c1; have kHC0_u6 := HC_u6.out.c0; have kHC1_u6 := HC_u6.out.c1; have kHX0_u6 := HX_u6.out.c0; have kHX1_u6 := HX_u6.out.c1; have kHY0_u6 := HY_u6.out.c0; have kHY1_u6 := HY_u6.out.c1; clear hb)
        | (go_at_call 12; (with_reducible show Calls _ _ _ u6 _); (with_reducible refine (rl.out _ HB_u6.out.below).mono ?_); rintro e u7 ⟨rfl, hb⟩; have HB_u7 := Kp.mk (HB_u6.out.step hb); have HA_u7 := Kp.mk (HA_u6.out.step hb); have HC_u7 := Kp.mk (HC_u6.out.step hb); have HX_u7 := Kp.mk (HX_u6.out.step hb); have HY_u7 := Kp.mk (HY_u6.out.step hb); have kHA0_u7 := HA_u7.out.c0; have kHA1_u7 := HA_u7.out.c1; have kHC0_u7 := HC_u7.out.c0; have kHC1_u7 := HC_u7.out.c1; have kHX0_u7 := HX_u7.out.c0; have kHX1_u7 := HX_u7.out.c1; have kHY0_u7 := HY_u7.out.c0; have kHY1_u7 := HY_u7.out.c1; clear hb))
    have HB := HB_u7
    have HA := HA_u7
    have HC := HC_u7
    have HX := HX_u7
    have HY := HY_u7
    have kHA0 := HA.out.c0
    have kHA1 := HA.out.c1
    have kHC0 := HC.out.c0
    have kHC1 := HC.out.c1
    have kHX0 := HX.out.c0
    have kHX1 := HX.out.c1
    have kHY0 := HY.out.c0
    have kHY1 := HY.out.c1
    go_wp2_with fail
    go_ret
    exact ⟨rfl, HB.out.below⟩
  · clear b1 b2 xHA0 yHA0 xHA1 yHA1 xHC0 yHC0 xHC1 yHC1
    clear kHA0 kHA1 kHC0 kHC1
    have HY := Kp.mk (ew_new g e 24 HB.out.below)
    have hx := ew_new f d 24 HY.out.below
    rw [World.size_alloc] at hx
    have HX := Kp.mk hx
    clear hx
    have HY := Kp.mk (HY.out.step ((Below.refl (u3.alloc (.cells #[.int .i8 g, .int .i64 e] 24)).heap.size _).alloc (Nat.le_refl _) (.cells #[.int .i8 f, .int .i64 d] 24)))
    have hbl := ((Below.refl u3.heap.size u3).alloc (Nat.le_refl _) (.cells #[.int .i8 g, .int .i64 e] 24)).alloc (by simp) (.cells #[.int .i8 f, .int .i64 d] 24)
    have hbl := hbl.drew
    have HY := Kp.mk (HY.out.step (Below.refl ((u3.alloc (.cells #[.int .i8 g, .int .i64 e] 24)).alloc (.cells #[.int .i8 f, .int .i64 d] 24)).heap.size _).drew)
    have HX := Kp.mk (HX.out.step (Below.refl ((u3.alloc (.cells #[.int .i8 g, .int .i64 e] 24)).alloc (.cells #[.int .i8 f, .int .i64 d] 24)).heap.size _).drew)
    have HB := Kp.mk (HB.out.step hbl)
    have HA := Kp.mk (HA.out.step hbl)
    have HC := Kp.mk (HC.out.step hbl)
    clear hbl
    generalize (((u3.alloc (.cells #[.int .i8 g, .int .i64 e] 24)).alloc (.cells #[.int .i8 f, .int .i64 d] 24)).drew) = u4 at *
    generalize u3.heap.size = g1 at *
    have kHA0 := HA.out.c0
    have kHA1 := HA.out.c1
    have kHC0 := HC.out.c0
    have kHC1 := HC.out.c1
    have kHY0 := HY.out.c0
    have kHY1 := HY.out.c1
    have kHX0 := HX.out.c0
    have kHX1 := HX.out.c1
    go_upto_region 8 with fail
    have hbl := (Below.refl u4.heap.size u4).drew
    have HAz := Kp.mk (HA.out.step hbl)
    have kHA0z := HAz.out.c0
    have kHA1z := HAz.out.c1
    have HCz := Kp.mk (HC.out.step hbl)
    have kHC0z := HCz.out.c0
    have kHC1z := HCz.out.c1
    have HXz := Kp.mk (HX.out.step hbl)
    have kHX0z := HXz.out.c0
    have kHX1z := HXz.out.c1
    have HYz := Kp.mk (HY.out.step hbl)
    have kHY0z := HYz.out.c0
    have kHY1z := HYz.out.c1
    have lHX0 := HX.out.f0
    have lHX1 := HX.out.f1
    have lHY0 := HY.out.f0
    have lHY1 := HY.out.f1
    clear hbl
    refine wp_region_held_drew (S := fun w' => w'.cell? ⟨w.heap.size, 0, none⟩ = some (.int .i8 f) ∧ w'.cell? ⟨w.heap.size, 1, none⟩ = some (.int .i64 d) ∧ w'.cell? ⟨w.heap.size + 1, 0, none⟩ = some (.int .i8 g) ∧ w'.cell? ⟨w.heap.size + 1, 1, none⟩ = some (.int .i64 e)) (by kernel_rfl) ?_ (fun hHeld => ?_)
    · with_reducible exact ⟨kHA0z, kHA1z, kHC0z, kHC1z⟩
    refine takeIn (i := 0) (v := ?_) rfl (by kernel_rfl) (by kernel_rfl) (by kernel_rfl) (fun _ _ _ h => h) (by rfl) hHeld ?_ ?_
    rotate_left
    · (intro w hSw; (try dsimp only at hSw); go_simp; try with_reducible rfl)
    try simp only [Act.put, List.setIfInBounds_toArray, List.set_cons_zero, List.set_cons_succ]
    refine takeIn (i := 1) (v := ?_) rfl (by kernel_rfl) (by kernel_rfl) (by kernel_rfl) (fun _ _ _ h => h) (by rfl) hHeld ?_ ?_
    rotate_left
    · (intro w hSw; (try dsimp only at hSw); go_simp; try with_reducible rfl)
    try simp only [Act.put, List.setIfInBounds_toArray, List.set_cons_zero, List.set_cons_succ]
    refine wpAnyH_ready (rs := [2]) (by kernel_rfl) (by simp) ?_
    refine AllReadyH.cons (dropAt rfl) (fun K hK => ?_) AllReadyH.nil
    clear kHA0z kHA1z kHC0z kHC1z kHX0z kHX1z kHY0z kHY1z kHA0 kHA1 kHC0 kHC1
    have base := Kp.mk sB.out
    have nA : ¬ w.heap.size = g1 := fun x => by have := sA.out; omega
    have nA1 : ¬ w.heap.size = g1 + 1 := fun x => by have := sA.out; omega
    have nC : ¬ w.heap.size + 1 = g1 := fun x => by have := sC.out; omega
    have nC1 : ¬ w.heap.size + 1 = g1 + 1 := fun x => by have := sC.out; omega
    have nA := Kp.mk nA
    have nA1 := Kp.mk nA1
    have nC := Kp.mk nC
    have nC1 := Kp.mk nC1
    go_simp
    clear kHX0 lHX0
    clear kHY0 lHY0
    clear kHX1 lHX1
    clear kHY1 lHY1
    have bs0 : w.heap.size ≤ g1 + 1 := by have := base.out; omega
    have HB : Kp (Bl w ((u4.setCell ⟨g1 + 1, 0, none⟩ (.int .i8 g)).setCell ⟨g1 + 1, 1, none⟩ (.int .i64 e))) := Kp.mk (Bl.mk (below_set2 HB.out.below bs0 g e))
    have HA : Kp (Eb w (w.heap.size) f d ((u4.setCell ⟨g1 + 1, 0, none⟩ (.int .i8 g)).setCell ⟨g1 + 1, 1, none⟩ (.int .i64 e))) := Kp.mk (HA.out.other nA1.out bs0 g e)
    have HC : Kp (Eb w (w.heap.size + 1) g e ((u4.setCell ⟨g1 + 1, 0, none⟩ (.int .i8 g)).setCell ⟨g1 + 1, 1, none⟩ (.int .i64 e))) := Kp.mk (HC.out.other nC1.out bs0 g e)
    have HX : Kp (Ew w (g1 + 1) g e ((u4.setCell ⟨g1 + 1, 0, none⟩ (.int .i8 g)).setCell ⟨g1 + 1, 1, none⟩ (.int .i64 e))) := Kp.mk (HX.out.set bs0 g e)
    have HY : Kp (Ew w (g1) g e ((u4.setCell ⟨g1 + 1, 0, none⟩ (.int .i8 g)).setCell ⟨g1 + 1, 1, none⟩ (.int .i64 e))) := Kp.mk (HY.out.other (by omega) bs0 g e)
    clear bs0
    generalize ((u4.setCell ⟨g1 + 1, 0, none⟩ (.int .i8 g)).setCell ⟨g1 + 1, 1, none⟩ (.int .i64 e)) = v1 at *
    refine hK.out _ _ ?_ (fun hHeld => ?_)
    · exact ⟨(HA.out.step (Below.refl v1.heap.size v1).drew).c0, (HA.out.step (Below.refl v1.heap.size v1).drew).c1, (HC.out.step (Below.refl v1.heap.size v1).drew).c0, (HC.out.step (Below.refl v1.heap.size v1).drew).c1⟩
    clear hK K
    try simp only [Act.put, List.setIfInBounds_toArray, List.set_cons_zero, List.set_cons_succ]
    have kHY0 := HY.out.c0
    have lHY0 := HY.out.f0
    have kHY1 := HY.out.c1
    have lHY1 := HY.out.f1
    refine wpAnyH_ready (rs := [3]) (by kernel_rfl) (by simp) ?_
    refine AllReadyH.cons (dropAt rfl) (fun K hK => ?_) AllReadyH.nil
    go_simp
    clear kHY0 lHY0
    clear kHY1 lHY1
    have bs0 : w.heap.size ≤ g1 := by have := base.out; omega
    have HB : Kp (Bl w ((v1.setCell ⟨g1, 0, none⟩ (.int .i8 f)).setCell ⟨g1, 1, none⟩ (.int .i64 d))) := Kp.mk (Bl.mk (below_set2 HB.out.below bs0 f d))
    have HA : Kp (Eb w (w.heap.size) f d ((v1.setCell ⟨g1, 0, none⟩ (.int .i8 f)).setCell ⟨g1, 1, none⟩ (.int .i64 d))) := Kp.mk (HA.out.other nA.out bs0 f d)
    have HC : Kp (Eb w (w.heap.size + 1) g e ((v1.setCell ⟨g1, 0, none⟩ (.int .i8 f)).setCell ⟨g1, 1, none⟩ (.int .i64 d))) := Kp.mk (HC.out.other nC.out bs0 f d)
    have HY : Kp (Ew w (g1) f d ((v1.setCell ⟨g1, 0, none⟩ (.int .i8 f)).setCell ⟨g1, 1, none⟩ (.int .i64 d))) := Kp.mk (HY.out.set bs0 f d)
    have HX : Kp (Ew w (g1 + 1) g e ((v1.setCell ⟨g1, 0, none⟩ (.int .i8 f)).setCell ⟨g1, 1, none⟩ (.int .i64 d))) := Kp.mk (HX.out.other (by omega) bs0 f d)
    clear bs0
    generalize ((v1.setCell ⟨g1, 0, none⟩ (.int .i8 f)).setCell ⟨g1, 1, none⟩ (.int .i64 d)) = v2 at *
    refine hK.out _ _ ?_ (fun hHeld => ?_)
    · exact ⟨(HA.out.step (Below.refl v2.heap.size v2).drew).c0, (HA.out.step (Below.refl v2.heap.size v2).drew).c1, (HC.out.step (Below.refl v2.heap.size v2).drew).c0, (HC.out.step (Below.refl v2.heap.size v2).drew).c1⟩
    clear hK K
    try simp only [Act.put, List.setIfInBounds_toArray, List.set_cons_zero, List.set_cons_succ]
    refine wpAnyH_done (by kernel_rfl) ?_ _
    clear hHeld
    have hbl := (Below.refl v2.heap.size v2).drew
    have HB := Kp.mk (HB.out.step hbl)
    have HA := Kp.mk (HA.out.step hbl)
    have HC := Kp.mk (HC.out.step hbl)
    have HY := Kp.mk (HY.out.step hbl)
    have HX := Kp.mk (HX.out.step hbl)
    clear hbl
    generalize v2.drew = v3 at *
    have kHA0 := HA.out.c0
    have kHA1 := HA.out.c1
    have kHC0 := HC.out.c0
    have kHC1 := HC.out.c1
    have kHY0 := HY.out.c0
    have kHY1 := HY.out.c1
    have kHX0 := HX.out.c0
    have kHX1 := HX.out.c1
    go_upto_region 9 with fail
    have hbl := (Below.refl v3.heap.size v3).drew
    have HBz := Kp.mk (HB.out.step hbl)
    have HAz := Kp.mk (HA.out.step hbl)
    have HCz := Kp.mk (HC.out.step hbl)
    have HYz := Kp.mk (HY.out.step hbl)
    have HXz := Kp.mk (HX.out.step hbl)
    have kHA0z := HAz.out.c0
    have kHA1z := HAz.out.c1
    have kHC0z := HCz.out.c0
    have kHC1z := HCz.out.c1
    have kHY0z := HYz.out.c0
    have kHY1z := HYz.out.c1
    have kHX0z := HXz.out.c0
    have kHX1z := HXz.out.c1
    clear hbl
    go_region_held3 (fun w' => w'.cell? ⟨w.heap.size, 0, none⟩ = some (.int .i8 f) ∧ w'.cell? ⟨w.heap.size, 1, none⟩ = some (.int .i64 d) ∧ w'.cell? ⟨w.heap.size + 1, 0, none⟩ = some (.int .i8 g) ∧ w'.cell? ⟨w.heap.size + 1, 1, none⟩ = some (.int .i64 e) ∧ w'.cell? ⟨g1, 0, none⟩ = some (.int .i8 f) ∧ w'.cell? ⟨g1, 1, none⟩ = some (.int .i64 d) ∧ w'.cell? ⟨g1 + 1, 0, none⟩ = some (.int .i8 g) ∧ w'.cell? ⟨g1 + 1, 1, none⟩ = some (.int .i64 e)) (first | (with_reducible exact ⟨kHA0, kHA1, kHC0, kHC1, kHY0, kHY1, kHX0, kHX1⟩) | (with_reducible exact ⟨kHA0z, kHA1z, kHC0z, kHC1z, kHY0z, kHY1z, kHX0z, kHX1z⟩) | (with_reducible exact ⟨kHA0_u5, kHA1_u5, kHC0_u5, kHC1_u5, kHY0_u5, kHY1_u5, kHX0_u5, kHX1_u5⟩) | (with_reducible exact ⟨kHA0_u6, kHA1_u6, kHC0_u6, kHC1_u6, kHY0_u6, kHY1_u6, kHX0_u6, kHX1_u6⟩) | (with_reducible exact ⟨kHA0_u7, kHA1_u7, kHC0_u7, kHC1_u7, kHY0_u7, kHY1_u7, kHX0_u7, kHX1_u7⟩) | go_keep)
      (first
        | (go_at_call 10; (with_reducible show Calls _ _ _ v3.drew _); (with_reducible refine (r6.out _ HBz.out.below).mono ?_); rintro e u5 ⟨rfl, hb⟩; have HB_u5 := Kp.mk (HBz.out.step hb); have HA_u5 := Kp.mk (HAz.out.step hb); have HC_u5 := Kp.mk (HCz.out.step hb); have HY_u5 := Kp.mk (HYz.out.step hb); have HX_u5 := Kp.mk (HXz.out.step hb); have kHA0_u5 := HA_u5.out.c0; have kHA1_u5 := HA_u5.out.c1; have kHC0_u5 := HC_u5.out.c0; have kHC1_u5 := HC_u5.out.c1; have kHY0_u5 := HY_u5.out.c0; have kHY1_u5 := HY_u5.out.c1; have kHX0_u5 := HX_u5.out.c0; have kHX1_u5 := HX_u5.out.c1; clear hb)
        | (go_at_call 11; (with_reducible show Calls _ _ _ u5 _); (with_reducible refine (r7.out _ HB_u5.out.below).mono ?_); rintro e u6 ⟨rfl, hb⟩; have HB_u6 := Kp.mk (HB_u5.out.step hb); have HA_u6 := Kp.mk (HA_u5.out.step hb); have HC_u6 := Kp.mk (HC_u5.out.step hb); have HY_u6 := Kp.mk (HY_u5.out.step hb); have HX_u6 := Kp.mk (HX_u5.out.step hb); have kHA0_u6 := HA_u6.out.c0; have kHA1_u6 := HA_u6.out.c1; have kHC0_u6 := HC_u6.out.c0; have kHC1_u6 := HC_u6.out.c1; have kHY0_u6 := HY_u6.out.c0; have kHY1_u6 := HY_u6.out.c1; have kHX0_u6 := HX_u6.out.c0; have kHX1_u6 := HX_u6.out.c1; clear hb)
        | (go_at_call 12; (with_reducible show Calls _ _ _ u6 _); (with_reducible refine (rl.out _ HB_u6.out.below).mono ?_); rintro e u7 ⟨rfl, hb⟩; have HB_u7 := Kp.mk (HB_u6.out.step hb); have HA_u7 := Kp.mk (HA_u6.out.step hb); have HC_u7 := Kp.mk (HC_u6.out.step hb); have HY_u7 := Kp.mk (HY_u6.out.step hb); have HX_u7 := Kp.mk (HX_u6.out.step hb); have kHA0_u7 := HA_u7.out.c0; have kHA1_u7 := HA_u7.out.c1; have kHC0_u7 := HC_u7.out.c0; have kHC1_u7 := HC_u7.out.c1; have kHY0_u7 := HY_u7.out.c0; have kHY1_u7 := HY_u7.out.c1; have kHX0_u7 := HX_u7.out.c0; have kHX1_u7 := HX_u7.out.c1; clear hb))
    have HB := HB_u7
    have HA := HA_u7
    have HC := HC_u7
    have HY := HY_u7
    have HX := HX_u7
    have kHA0 := HA.out.c0
    have kHA1 := HA.out.c1
    have kHC0 := HC.out.c0
    have kHC1 := HC.out.c1
    have kHY0 := HY.out.c0
    have kHY1 := HY.out.c1
    have kHX0 := HX.out.c0
    have kHX1 := HX.out.c1
    go_wp2_with fail
    go_ret
    exact ⟨rfl, HB.out.below⟩
set_option maxHeartbeats 8000000 in
theorem lawOrder_ps {I : World → Prop} (C : EndFns I) (f d e h i : Int) (w : World) (hI : I w) (d0 : -9223372036854775808 ≤ d) (d1 : d ≤ 9223372036854775807) (e0 : -9223372036854775808 ≤ e) (e1 : e ≤ 9223372036854775807) (hn : cmpE f d f e = 1) (hd : ¬ d = e) :
    Calls Tryd.prog 3 #[.agg #[.int .i8 f, .int .i64 d], .agg #[.int .i8 f, .int .i64 e], .agg #[.int .i8 h, .int .i64 i]] w fun x w' => x = .returned (.bool true) ∧ Below w.heap.size w w' := by
  have HA := Kp.mk (eb_three w f d f e h i).1
  have HC := Kp.mk (eb_three w f d f e h i).2.1
  have HD := Kp.mk (eb_three w f d f e h i).2.2
  have HB := Kp.mk (Bl.mk HA.out.below)
  have HI := Kp.mk (fun (v : World) (h : Below w.heap.size w v) => C.keep hI h)
  clear hI
  have rl := Kp.mk (fun v (hw : Below w.heap.size w v) => C.lives v (HI.out v hw))
  have hs : cmpE f e f d = -1 := by rw [cmpE_swap, hn]
  have r1 := Kp.mk (fun v (hw : Below w.heap.size w v) => C.cmp v (HI.out v hw) d0 d1 e0 e1 hn)
  have r2 := Kp.mk (fun w => refECmp_is hn w)
  have r3 := Kp.mk (fun v (hw : Below w.heap.size w v) => C.cmp v (HI.out v hw) e0 e1 d0 d1 hs)
  have r6 := Kp.mk (fun v (hw : Below w.heap.size w v) => C.min_gt (f := f) (g := f) v (HI.out v hw) d0 d1 e0 e1 (by omega))
  have r7 := Kp.mk (fun v (hw : Below w.heap.size w v) => C.max_gt (f := f) (g := f) v (HI.out v hw) d0 d1 e0 e1 (by omega))
  have t1 : (d == e) = false := by rw [beq_eq_false_iff_ne]; exact hd
  clear C d0 d1 e0 e1 hn hs hd
  go_enter Tryd.func3, Tryd.ntmps3
  go_upto_region 1 with fail
  generalize (((w.alloc (.cells #[.int .i8 f, .int .i64 d] 24)).alloc (.cells #[.int .i8 f, .int .i64 e] 24)).alloc (.cells #[.int .i8 h, .int .i64 i] 24)) = w0 at *
  have kHA0 := HA.out.c0
  have kHA1 := HA.out.c1
  have kHC0 := HC.out.c0
  have kHC1 := HC.out.c1
  have kHD0 := HD.out.c0
  have kHD1 := HD.out.c1
  go_wp2_with fail
  refine (r1.out _ HB.out.below).mono ?_
  rintro e u1 ⟨rfl, hbl⟩
  clear kHA0 kHA1 kHC0 kHC1 kHD0 kHD1
  have HB := Kp.mk (HB.out.step hbl)
  have HA := Kp.mk (HA.out.step hbl)
  have HC := Kp.mk (HC.out.step hbl)
  have HD := Kp.mk (HD.out.step hbl)
  clear hbl
  have kHA0 := HA.out.c0
  have kHA1 := HA.out.c1
  have kHC0 := HC.out.c0
  have kHC1 := HC.out.c1
  have kHD0 := HD.out.c0
  have kHD1 := HD.out.c1
  go_wp2_with fail
  refine (r2.out _).mono ?_
  rintro e u2 ⟨rfl, hbl⟩
  clear kHA0 kHA1 kHC0 kHC1 kHD0 kHD1
  have HB := Kp.mk (HB.out.step hbl)
  have HA := Kp.mk (HA.out.step hbl)
  have HC := Kp.mk (HC.out.step hbl)
  have HD := Kp.mk (HD.out.step hbl)
  clear hbl
  have kHA0 := HA.out.c0
  have kHA1 := HA.out.c1
  have kHC0 := HC.out.c0
  have kHC1 := HC.out.c1
  have kHD0 := HD.out.c0
  have kHD1 := HD.out.c1
  go_wp2_with fail
  refine (r3.out _ HB.out.below).mono ?_
  rintro e u3 ⟨rfl, hbl⟩
  clear kHA0 kHA1 kHC0 kHC1 kHD0 kHD1
  have HB := Kp.mk (HB.out.step hbl)
  have HA := Kp.mk (HA.out.step hbl)
  have HC := Kp.mk (HC.out.step hbl)
  have HD := Kp.mk (HD.out.step hbl)
  clear hbl
  have kHA0 := HA.out.c0
  have kHA1 := HA.out.c1
  have kHC0 := HC.out.c0
  have kHC1 := HC.out.c1
  have kHD0 := HD.out.c0
  have kHD1 := HD.out.c1
  go_upto_region 6 with fail
  clear kHA0 kHA1 kHC0 kHC1 kHD0 kHD1
  clear HD
  have kHA0 := HA.out.c0
  have kHA1 := HA.out.c1
  have kHC0 := HC.out.c0
  have kHC1 := HC.out.c1
  have b1 : ∀ o1, Below u3.heap.size u3 (u3.alloc o1).drew := fun o1 => ((Below.refl u3.heap.size u3).alloc (Nat.le_refl _) o1).drew
  have b2 : ∀ o1 o2, Below u3.heap.size u3 ((u3.alloc o1).alloc o2).drew := fun o1 o2 => (((Below.refl u3.heap.size u3).alloc (Nat.le_refl _) o1).alloc (by simp) o2).drew
  have xHA0 : ∀ o1, (u3.alloc o1).drew.cell? ⟨w.heap.size, 0, none⟩ = some (.int .i8 f) := fun o1 => (HA.out.step (b1 o1)).c0
  have yHA0 : ∀ o1 o2, ((u3.alloc o1).alloc o2).drew.cell? ⟨w.heap.size, 0, none⟩ = some (.int .i8 f) := fun o1 o2 => (HA.out.step (b2 o1 o2)).c0
  have xHA1 : ∀ o1, (u3.alloc o1).drew.cell? ⟨w.heap.size, 1, none⟩ = some (.int .i64 d) := fun o1 => (HA.out.step (b1 o1)).c1
  have yHA1 : ∀ o1 o2, ((u3.alloc o1).alloc o2).drew.cell? ⟨w.heap.size, 1, none⟩ = some (.int .i64 d) := fun o1 o2 => (HA.out.step (b2 o1 o2)).c1
  have xHC0 : ∀ o1, (u3.alloc o1).drew.cell? ⟨w.heap.size + 1, 0, none⟩ = some (.int .i8 f) := fun o1 => (HC.out.step (b1 o1)).c0
  have yHC0 : ∀ o1 o2, ((u3.alloc o1).alloc o2).drew.cell? ⟨w.heap.size + 1, 0, none⟩ = some (.int .i8 f) := fun o1 o2 => (HC.out.step (b2 o1 o2)).c0
  have xHC1 : ∀ o1, (u3.alloc o1).drew.cell? ⟨w.heap.size + 1, 1, none⟩ = some (.int .i64 e) := fun o1 => (HC.out.step (b1 o1)).c1
  have yHC1 : ∀ o1 o2, ((u3.alloc o1).alloc o2).drew.cell? ⟨w.heap.size + 1, 1, none⟩ = some (.int .i64 e) := fun o1 o2 => (HC.out.step (b2 o1 o2)).c1
  have sB := Kp.mk HB.out.below.size
  have sA := Kp.mk HA.out.size
  have sC := Kp.mk HC.out.size
  go_region
  · clear b1 b2 xHA0 yHA0 xHA1 yHA1 xHC0 yHC0 xHC1 yHC1
    clear kHA0 kHA1 kHC0 kHC1
    have HX := Kp.mk (ew_new f d 24 HB.out.below)
    have hx := ew_new f e 24 HX.out.below
    rw [World.size_alloc] at hx
    have HY := Kp.mk hx
    clear hx
    have HX := Kp.mk (HX.out.step ((Below.refl (u3.alloc (.cells #[.int .i8 f, .int .i64 d] 24)).heap.size _).alloc (Nat.le_refl _) (.cells #[.int .i8 f, .int .i64 e] 24)))
    have hbl := ((Below.refl u3.heap.size u3).alloc (Nat.le_refl _) (.cells #[.int .i8 f, .int .i64 d] 24)).alloc (by simp) (.cells #[.int .i8 f, .int .i64 e] 24)
    have hbl := hbl.drew
    have HX := Kp.mk (HX.out.step (Below.refl ((u3.alloc (.cells #[.int .i8 f, .int .i64 d] 24)).alloc (.cells #[.int .i8 f, .int .i64 e] 24)).heap.size _).drew)
    have HY := Kp.mk (HY.out.step (Below.refl ((u3.alloc (.cells #[.int .i8 f, .int .i64 d] 24)).alloc (.cells #[.int .i8 f, .int .i64 e] 24)).heap.size _).drew)
    have HB := Kp.mk (HB.out.step hbl)
    have HA := Kp.mk (HA.out.step hbl)
    have HC := Kp.mk (HC.out.step hbl)
    clear hbl
    generalize (((u3.alloc (.cells #[.int .i8 f, .int .i64 d] 24)).alloc (.cells #[.int .i8 f, .int .i64 e] 24)).drew) = u4 at *
    generalize u3.heap.size = g1 at *
    have kHA0 := HA.out.c0
    have kHA1 := HA.out.c1
    have kHC0 := HC.out.c0
    have kHC1 := HC.out.c1
    have kHX0 := HX.out.c0
    have kHX1 := HX.out.c1
    have kHY0 := HY.out.c0
    have kHY1 := HY.out.c1
    go_upto_region 8 with fail
    have hbl := (Below.refl u4.heap.size u4).drew
    have HAz := Kp.mk (HA.out.step hbl)
    have kHA0z := HAz.out.c0
    have kHA1z := HAz.out.c1
    have HCz := Kp.mk (HC.out.step hbl)
    have kHC0z := HCz.out.c0
    have kHC1z := HCz.out.c1
    have HXz := Kp.mk (HX.out.step hbl)
    have kHX0z := HXz.out.c0
    have kHX1z := HXz.out.c1
    have HYz := Kp.mk (HY.out.step hbl)
    have kHY0z := HYz.out.c0
    have kHY1z := HYz.out.c1
    have lHX0 := HX.out.f0
    have lHX1 := HX.out.f1
    have lHY0 := HY.out.f0
    have lHY1 := HY.out.f1
    clear hbl
    refine wp_region_held_drew (S := fun w' => w'.cell? ⟨w.heap.size, 0, none⟩ = some (.int .i8 f) ∧ w'.cell? ⟨w.heap.size, 1, none⟩ = some (.int .i64 d) ∧ w'.cell? ⟨w.heap.size + 1, 0, none⟩ = some (.int .i8 f) ∧ w'.cell? ⟨w.heap.size + 1, 1, none⟩ = some (.int .i64 e)) (by kernel_rfl) ?_ (fun hHeld => ?_)
    · with_reducible exact ⟨kHA0z, kHA1z, kHC0z, kHC1z⟩
    refine takeIn (i := 0) (v := ?_) rfl (by kernel_rfl) (by kernel_rfl) (by kernel_rfl) (fun _ _ _ h => h) (by rfl) hHeld ?_ ?_
    rotate_left
    · (intro w hSw; (try dsimp only at hSw); go_simp; try with_reducible rfl)
    try simp only [Act.put, List.setIfInBounds_toArray, List.set_cons_zero, List.set_cons_succ]
    refine takeIn (i := 1) (v := ?_) rfl (by kernel_rfl) (by kernel_rfl) (by kernel_rfl) (fun _ _ _ h => h) (by rfl) hHeld ?_ ?_
    rotate_left
    · (intro w hSw; (try dsimp only at hSw); go_simp; try with_reducible rfl)
    try simp only [Act.put, List.setIfInBounds_toArray, List.set_cons_zero, List.set_cons_succ]
    refine wpAnyH_ready (rs := [2]) (by kernel_rfl) (by simp) ?_
    refine AllReadyH.cons (dropAt rfl) (fun K hK => ?_) AllReadyH.nil
    clear kHA0z kHA1z kHC0z kHC1z kHX0z kHX1z kHY0z kHY1z kHA0 kHA1 kHC0 kHC1
    have base := Kp.mk sB.out
    have nA : ¬ w.heap.size = g1 := fun x => by have := sA.out; omega
    have nA1 : ¬ w.heap.size = g1 + 1 := fun x => by have := sA.out; omega
    have nC : ¬ w.heap.size + 1 = g1 := fun x => by have := sC.out; omega
    have nC1 : ¬ w.heap.size + 1 = g1 + 1 := fun x => by have := sC.out; omega
    have nA := Kp.mk nA
    have nA1 := Kp.mk nA1
    have nC := Kp.mk nC
    have nC1 := Kp.mk nC1
    go_simp
    clear kHX0 lHX0
    clear kHY0 lHY0
    clear kHX1 lHX1
    clear kHY1 lHY1
    have bs0 : w.heap.size ≤ g1 := by have := base.out; omega
    have HB : Kp (Bl w ((u4.setCell ⟨g1, 0, none⟩ (.int .i8 f)).setCell ⟨g1, 1, none⟩ (.int .i64 e))) := Kp.mk (Bl.mk (below_set2 HB.out.below bs0 f e))
    have HA : Kp (Eb w (w.heap.size) f d ((u4.setCell ⟨g1, 0, none⟩ (.int .i8 f)).setCell ⟨g1, 1, none⟩ (.int .i64 e))) := Kp.mk (HA.out.other nA.out bs0 f e)
    have HC : Kp (Eb w (w.heap.size + 1) f e ((u4.setCell ⟨g1, 0, none⟩ (.int .i8 f)).setCell ⟨g1, 1, none⟩ (.int .i64 e))) := Kp.mk (HC.out.other nC.out bs0 f e)
    have HX : Kp (Ew w (g1) f e ((u4.setCell ⟨g1, 0, none⟩ (.int .i8 f)).setCell ⟨g1, 1, none⟩ (.int .i64 e))) := Kp.mk (HX.out.set bs0 f e)
    have HY : Kp (Ew w (g1 + 1) f e ((u4.setCell ⟨g1, 0, none⟩ (.int .i8 f)).setCell ⟨g1, 1, none⟩ (.int .i64 e))) := Kp.mk (HY.out.other (by omega) bs0 f e)
    clear bs0
    generalize ((u4.setCell ⟨g1, 0, none⟩ (.int .i8 f)).setCell ⟨g1, 1, none⟩ (.int .i64 e)) = v1 at *
    refine hK.out _ _ ?_ (fun hHeld => ?_)
    · exact ⟨(HA.out.step (Below.refl v1.heap.size v1).drew).c0, (HA.out.step (Below.refl v1.heap.size v1).drew).c1, (HC.out.step (Below.refl v1.heap.size v1).drew).c0, (HC.out.step (Below.refl v1.heap.size v1).drew).c1⟩
    clear hK K
    try simp only [Act.put, List.setIfInBounds_toArray, List.set_cons_zero, List.set_cons_succ]
    have kHY0 := HY.out.c0
    have lHY0 := HY.out.f0
    have kHY1 := HY.out.c1
    have lHY1 := HY.out.f1
    refine wpAnyH_ready (rs := [3]) (by kernel_rfl) (by simp) ?_
    refine AllReadyH.cons (dropAt rfl) (fun K hK => ?_) AllReadyH.nil
    go_simp
    clear kHY0 lHY0
    clear kHY1 lHY1
    have bs0 : w.heap.size ≤ g1 + 1 := by have := base.out; omega
    have HB : Kp (Bl w ((v1.setCell ⟨g1 + 1, 0, none⟩ (.int .i8 f)).setCell ⟨g1 + 1, 1, none⟩ (.int .i64 d))) := Kp.mk (Bl.mk (below_set2 HB.out.below bs0 f d))
    have HA : Kp (Eb w (w.heap.size) f d ((v1.setCell ⟨g1 + 1, 0, none⟩ (.int .i8 f)).setCell ⟨g1 + 1, 1, none⟩ (.int .i64 d))) := Kp.mk (HA.out.other nA1.out bs0 f d)
    have HC : Kp (Eb w (w.heap.size + 1) f e ((v1.setCell ⟨g1 + 1, 0, none⟩ (.int .i8 f)).setCell ⟨g1 + 1, 1, none⟩ (.int .i64 d))) := Kp.mk (HC.out.other nC1.out bs0 f d)
    have HY : Kp (Ew w (g1 + 1) f d ((v1.setCell ⟨g1 + 1, 0, none⟩ (.int .i8 f)).setCell ⟨g1 + 1, 1, none⟩ (.int .i64 d))) := Kp.mk (HY.out.set bs0 f d)
    have HX : Kp (Ew w (g1) f e ((v1.setCell ⟨g1 + 1, 0, none⟩ (.int .i8 f)).setCell ⟨g1 + 1, 1, none⟩ (.int .i64 d))) := Kp.mk (HX.out.other (by omega) bs0 f d)
    clear bs0
    generalize ((v1.setCell ⟨g1 + 1, 0, none⟩ (.int .i8 f)).setCell ⟨g1 + 1, 1, none⟩ (.int .i64 d)) = v2 at *
    refine hK.out _ _ ?_ (fun hHeld => ?_)
    · exact ⟨(HA.out.step (Below.refl v2.heap.size v2).drew).c0, (HA.out.step (Below.refl v2.heap.size v2).drew).c1, (HC.out.step (Below.refl v2.heap.size v2).drew).c0, (HC.out.step (Below.refl v2.heap.size v2).drew).c1⟩
    clear hK K
    try simp only [Act.put, List.setIfInBounds_toArray, List.set_cons_zero, List.set_cons_succ]
    refine wpAnyH_done (by kernel_rfl) ?_ _
    clear hHeld
    have hbl := (Below.refl v2.heap.size v2).drew
    have HB := Kp.mk (HB.out.step hbl)
    have HA := Kp.mk (HA.out.step hbl)
    have HC := Kp.mk (HC.out.step hbl)
    have HX := Kp.mk (HX.out.step hbl)
    have HY := Kp.mk (HY.out.step hbl)
    clear hbl
    generalize v2.drew = v3 at *
    have kHA0 := HA.out.c0
    have kHA1 := HA.out.c1
    have kHC0 := HC.out.c0
    have kHC1 := HC.out.c1
    have kHX0 := HX.out.c0
    have kHX1 := HX.out.c1
    have kHY0 := HY.out.c0
    have kHY1 := HY.out.c1
    go_upto_region 9 with fail
    have hbl := (Below.refl v3.heap.size v3).drew
    have HBz := Kp.mk (HB.out.step hbl)
    have HAz := Kp.mk (HA.out.step hbl)
    have HCz := Kp.mk (HC.out.step hbl)
    have HXz := Kp.mk (HX.out.step hbl)
    have HYz := Kp.mk (HY.out.step hbl)
    have kHA0z := HAz.out.c0
    have kHA1z := HAz.out.c1
    have kHC0z := HCz.out.c0
    have kHC1z := HCz.out.c1
    have kHX0z := HXz.out.c0
    have kHX1z := HXz.out.c1
    have kHY0z := HYz.out.c0
    have kHY1z := HYz.out.c1
    clear hbl
    go_region_held3 (fun w' => w'.cell? ⟨w.heap.size, 0, none⟩ = some (.int .i8 f) ∧ w'.cell? ⟨w.heap.size, 1, none⟩ = some (.int .i64 d) ∧ w'.cell? ⟨w.heap.size + 1, 0, none⟩ = some (.int .i8 f) ∧ w'.cell? ⟨w.heap.size + 1, 1, none⟩ = some (.int .i64 e) ∧ w'.cell? ⟨g1, 0, none⟩ = some (.int .i8 f) ∧ w'.cell? ⟨g1, 1, none⟩ = some (.int .i64 e) ∧ w'.cell? ⟨g1 + 1, 0, none⟩ = some (.int .i8 f) ∧ w'.cell? ⟨g1 + 1, 1, none⟩ = some (.int .i64 d)) (first | (with_reducible exact ⟨kHA0, kHA1, kHC0, kHC1, kHX0, kHX1, kHY0, kHY1⟩) | (with_reducible exact ⟨kHA0z, kHA1z, kHC0z, kHC1z, kHX0z, kHX1z, kHY0z, kHY1z⟩) | (with_reducible exact ⟨kHA0_u5, kHA1_u5, kHC0_u5, kHC1_u5, kHX0_u5, kHX1_u5, kHY0_u5, kHY1_u5⟩) | (with_reducible exact ⟨kHA0_u6, kHA1_u6, kHC0_u6, kHC1_u6, kHX0_u6, kHX1_u6, kHY0_u6, kHY1_u6⟩) | (with_reducible exact ⟨kHA0_u7, kHA1_u7, kHC0_u7, kHC1_u7, kHX0_u7, kHX1_u7, kHY0_u7, kHY1_u7⟩) | go_keep)
      (first
        | (go_at_call 10; (with_reducible show Calls _ _ _ v3.drew _); (with_reducible refine (r6.out _ HBz.out.below).mono ?_); rintro e u5 ⟨rfl, hb⟩; have HB_u5 := Kp.mk (HBz.out.step hb); have HA_u5 := Kp.mk (HAz.out.step hb); have HC_u5 := Kp.mk (HCz.out.step hb); have HX_u5 := Kp.mk (HXz.out.step hb); have HY_u5 := Kp.mk (HYz.out.step hb); have kHA0_u5 := HA_u5.out.c0; have kHA1_u5 := HA_u5.out.c1; have kHC0_u5 := HC_u5.out.c0; have kHC1_u5 := HC_u5.out.c1; have kHX0_u5 := HX_u5.out.c0; have kHX1_u5 := HX_u5.out.c1; have kHY0_u5 := HY_u5.out.c0; have kHY1_u5 := HY_u5.out.c1; clear hb)
        | (go_at_call 11; (with_reducible show Calls _ _ _ u5 _); (with_reducible refine (r7.out _ HB_u5.out.below).mono ?_); rintro e u6 ⟨rfl, hb⟩; have HB_u6 := Kp.mk (HB_u5.out.step hb); have HA_u6 := Kp.mk (HA_u5.out.step hb); have HC_u6 := Kp.mk (HC_u5.out.step hb); have HX_u6 := Kp.mk (HX_u5.out.step hb); have HY_u6 := Kp.mk (HY_u5.out.step hb); have kHA0_u6 := HA_u6.out.c0; have kHA1_u6 := HA_u6.out.c1; have kHC0_u6 := HC_u6.out.c0; have kHC1_u6 := HC_u6.out.c1; have kHX0_u6 := HX_u6.out.c0; have kHX1_u6 := HX_u6.out.c1; have kHY0_u6 := HY_u6.out.c0; have kHY1_u6 := HY_u6.out.c1; clear hb)
        | (go_at_call 12; (with_reducible show Calls _ _ _ u6 _); (with_reducible refine (rl.out _ HB_u6.out.below).mono ?_); rintro e u7 ⟨rfl, hb⟩; have HB_u7 := Kp.mk (HB_u6.out.step hb); have HA_u7 := Kp.mk (HA_u6.out.step hb); have HC_u7 := Kp.mk (HC_u6.out.step hb); have HX_u7 := Kp.mk (HX_u6.out.step hb); have HY_u7 := Kp.mk (HY_u6.out.step hb); have kHA0_u7 := HA_u7.out.c0; have kHA1_u7 := HA_u7.out.c1; have kHC0_u7 := HC_u7.out.c0; have kHC1_u7 := HC_u7.out.c1; have kHX0_u7 := HX_u7.out.c0; have kHX1_u7 := HX_u7.out.c1; have kHY0_u7 := HY_u7.out.c0; have kHY1_u7 := HY_u7.out.c1; clear hb))
    have HB := HB_u7
    have HA := HA_u7
    have HC := HC_u7
    have HX := HX_u7
    have HY := HY_u7
    have kHA0 := HA.out.c0
    have kHA1 := HA.out.c1
    have kHC0 := HC.out.c0
    have kHC1 := HC.out.c1
    have kHX0 := HX.out.c0
    have kHX1 := HX.out.c1
    have kHY0 := HY.out.c0
    have kHY1 := HY.out.c1
    go_wp2_with fail
    go_ret
    exact ⟨rfl, HB.out.below⟩
  · clear b1 b2 xHA0 yHA0 xHA1 yHA1 xHC0 yHC0 xHC1 yHC1
    clear kHA0 kHA1 kHC0 kHC1
    have HY := Kp.mk (ew_new f e 24 HB.out.below)
    have hx := ew_new f d 24 HY.out.below
    rw [World.size_alloc] at hx
    have HX := Kp.mk hx
    clear hx
    have HY := Kp.mk (HY.out.step ((Below.refl (u3.alloc (.cells #[.int .i8 f, .int .i64 e] 24)).heap.size _).alloc (Nat.le_refl _) (.cells #[.int .i8 f, .int .i64 d] 24)))
    have hbl := ((Below.refl u3.heap.size u3).alloc (Nat.le_refl _) (.cells #[.int .i8 f, .int .i64 e] 24)).alloc (by simp) (.cells #[.int .i8 f, .int .i64 d] 24)
    have hbl := hbl.drew
    have HY := Kp.mk (HY.out.step (Below.refl ((u3.alloc (.cells #[.int .i8 f, .int .i64 e] 24)).alloc (.cells #[.int .i8 f, .int .i64 d] 24)).heap.size _).drew)
    have HX := Kp.mk (HX.out.step (Below.refl ((u3.alloc (.cells #[.int .i8 f, .int .i64 e] 24)).alloc (.cells #[.int .i8 f, .int .i64 d] 24)).heap.size _).drew)
    have HB := Kp.mk (HB.out.step hbl)
    have HA := Kp.mk (HA.out.step hbl)
    have HC := Kp.mk (HC.out.step hbl)
    clear hbl
    generalize (((u3.alloc (.cells #[.int .i8 f, .int .i64 e] 24)).alloc (.cells #[.int .i8 f, .int .i64 d] 24)).drew) = u4 at *
    generalize u3.heap.size = g1 at *
    have kHA0 := HA.out.c0
    have kHA1 := HA.out.c1
    have kHC0 := HC.out.c0
    have kHC1 := HC.out.c1
    have kHY0 := HY.out.c0
    have kHY1 := HY.out.c1
    have kHX0 := HX.out.c0
    have kHX1 := HX.out.c1
    go_upto_region 8 with fail
    have hbl := (Below.refl u4.heap.size u4).drew
    have HAz := Kp.mk (HA.out.step hbl)
    have kHA0z := HAz.out.c0
    have kHA1z := HAz.out.c1
    have HCz := Kp.mk (HC.out.step hbl)
    have kHC0z := HCz.out.c0
    have kHC1z := HCz.out.c1
    have HXz := Kp.mk (HX.out.step hbl)
    have kHX0z := HXz.out.c0
    have kHX1z := HXz.out.c1
    have HYz := Kp.mk (HY.out.step hbl)
    have kHY0z := HYz.out.c0
    have kHY1z := HYz.out.c1
    have lHX0 := HX.out.f0
    have lHX1 := HX.out.f1
    have lHY0 := HY.out.f0
    have lHY1 := HY.out.f1
    clear hbl
    refine wp_region_held_drew (S := fun w' => w'.cell? ⟨w.heap.size, 0, none⟩ = some (.int .i8 f) ∧ w'.cell? ⟨w.heap.size, 1, none⟩ = some (.int .i64 d) ∧ w'.cell? ⟨w.heap.size + 1, 0, none⟩ = some (.int .i8 f) ∧ w'.cell? ⟨w.heap.size + 1, 1, none⟩ = some (.int .i64 e)) (by kernel_rfl) ?_ (fun hHeld => ?_)
    · with_reducible exact ⟨kHA0z, kHA1z, kHC0z, kHC1z⟩
    refine takeIn (i := 0) (v := ?_) rfl (by kernel_rfl) (by kernel_rfl) (by kernel_rfl) (fun _ _ _ h => h) (by rfl) hHeld ?_ ?_
    rotate_left
    · (intro w hSw; (try dsimp only at hSw); go_simp; try with_reducible rfl)
    try simp only [Act.put, List.setIfInBounds_toArray, List.set_cons_zero, List.set_cons_succ]
    refine takeIn (i := 1) (v := ?_) rfl (by kernel_rfl) (by kernel_rfl) (by kernel_rfl) (fun _ _ _ h => h) (by rfl) hHeld ?_ ?_
    rotate_left
    · (intro w hSw; (try dsimp only at hSw); go_simp; try with_reducible rfl)
    try simp only [Act.put, List.setIfInBounds_toArray, List.set_cons_zero, List.set_cons_succ]
    refine wpAnyH_ready (rs := [2]) (by kernel_rfl) (by simp) ?_
    refine AllReadyH.cons (dropAt rfl) (fun K hK => ?_) AllReadyH.nil
    clear kHA0z kHA1z kHC0z kHC1z kHX0z kHX1z kHY0z kHY1z kHA0 kHA1 kHC0 kHC1
    have base := Kp.mk sB.out
    have nA : ¬ w.heap.size = g1 := fun x => by have := sA.out; omega
    have nA1 : ¬ w.heap.size = g1 + 1 := fun x => by have := sA.out; omega
    have nC : ¬ w.heap.size + 1 = g1 := fun x => by have := sC.out; omega
    have nC1 : ¬ w.heap.size + 1 = g1 + 1 := fun x => by have := sC.out; omega
    have nA := Kp.mk nA
    have nA1 := Kp.mk nA1
    have nC := Kp.mk nC
    have nC1 := Kp.mk nC1
    go_simp
    clear kHX0 lHX0
    clear kHY0 lHY0
    clear kHX1 lHX1
    clear kHY1 lHY1
    have bs0 : w.heap.size ≤ g1 + 1 := by have := base.out; omega
    have HB : Kp (Bl w ((u4.setCell ⟨g1 + 1, 0, none⟩ (.int .i8 f)).setCell ⟨g1 + 1, 1, none⟩ (.int .i64 e))) := Kp.mk (Bl.mk (below_set2 HB.out.below bs0 f e))
    have HA : Kp (Eb w (w.heap.size) f d ((u4.setCell ⟨g1 + 1, 0, none⟩ (.int .i8 f)).setCell ⟨g1 + 1, 1, none⟩ (.int .i64 e))) := Kp.mk (HA.out.other nA1.out bs0 f e)
    have HC : Kp (Eb w (w.heap.size + 1) f e ((u4.setCell ⟨g1 + 1, 0, none⟩ (.int .i8 f)).setCell ⟨g1 + 1, 1, none⟩ (.int .i64 e))) := Kp.mk (HC.out.other nC1.out bs0 f e)
    have HX : Kp (Ew w (g1 + 1) f e ((u4.setCell ⟨g1 + 1, 0, none⟩ (.int .i8 f)).setCell ⟨g1 + 1, 1, none⟩ (.int .i64 e))) := Kp.mk (HX.out.set bs0 f e)
    have HY : Kp (Ew w (g1) f e ((u4.setCell ⟨g1 + 1, 0, none⟩ (.int .i8 f)).setCell ⟨g1 + 1, 1, none⟩ (.int .i64 e))) := Kp.mk (HY.out.other (by omega) bs0 f e)
    clear bs0
    generalize ((u4.setCell ⟨g1 + 1, 0, none⟩ (.int .i8 f)).setCell ⟨g1 + 1, 1, none⟩ (.int .i64 e)) = v1 at *
    refine hK.out _ _ ?_ (fun hHeld => ?_)
    · exact ⟨(HA.out.step (Below.refl v1.heap.size v1).drew).c0, (HA.out.step (Below.refl v1.heap.size v1).drew).c1, (HC.out.step (Below.refl v1.heap.size v1).drew).c0, (HC.out.step (Below.refl v1.heap.size v1).drew).c1⟩
    clear hK K
    try simp only [Act.put, List.setIfInBounds_toArray, List.set_cons_zero, List.set_cons_succ]
    have kHY0 := HY.out.c0
    have lHY0 := HY.out.f0
    have kHY1 := HY.out.c1
    have lHY1 := HY.out.f1
    refine wpAnyH_ready (rs := [3]) (by kernel_rfl) (by simp) ?_
    refine AllReadyH.cons (dropAt rfl) (fun K hK => ?_) AllReadyH.nil
    go_simp
    clear kHY0 lHY0
    clear kHY1 lHY1
    have bs0 : w.heap.size ≤ g1 := by have := base.out; omega
    have HB : Kp (Bl w ((v1.setCell ⟨g1, 0, none⟩ (.int .i8 f)).setCell ⟨g1, 1, none⟩ (.int .i64 d))) := Kp.mk (Bl.mk (below_set2 HB.out.below bs0 f d))
    have HA : Kp (Eb w (w.heap.size) f d ((v1.setCell ⟨g1, 0, none⟩ (.int .i8 f)).setCell ⟨g1, 1, none⟩ (.int .i64 d))) := Kp.mk (HA.out.other nA.out bs0 f d)
    have HC : Kp (Eb w (w.heap.size + 1) f e ((v1.setCell ⟨g1, 0, none⟩ (.int .i8 f)).setCell ⟨g1, 1, none⟩ (.int .i64 d))) := Kp.mk (HC.out.other nC.out bs0 f d)
    have HY : Kp (Ew w (g1) f d ((v1.setCell ⟨g1, 0, none⟩ (.int .i8 f)).setCell ⟨g1, 1, none⟩ (.int .i64 d))) := Kp.mk (HY.out.set bs0 f d)
    have HX : Kp (Ew w (g1 + 1) f e ((v1.setCell ⟨g1, 0, none⟩ (.int .i8 f)).setCell ⟨g1, 1, none⟩ (.int .i64 d))) := Kp.mk (HX.out.other (by omega) bs0 f d)
    clear bs0
    generalize ((v1.setCell ⟨g1, 0, none⟩ (.int .i8 f)).setCell ⟨g1, 1, none⟩ (.int .i64 d)) = v2 at *
    refine hK.out _ _ ?_ (fun hHeld => ?_)
    · exact ⟨(HA.out.step (Below.refl v2.heap.size v2).drew).c0, (HA.out.step (Below.refl v2.heap.size v2).drew).c1, (HC.out.step (Below.refl v2.heap.size v2).drew).c0, (HC.out.step (Below.refl v2.heap.size v2).drew).c1⟩
    clear hK K
    try simp only [Act.put, List.setIfInBounds_toArray, List.set_cons_zero, List.set_cons_succ]
    refine wpAnyH_done (by kernel_rfl) ?_ _
    clear hHeld
    have hbl := (Below.refl v2.heap.size v2).drew
    have HB := Kp.mk (HB.out.step hbl)
    have HA := Kp.mk (HA.out.step hbl)
    have HC := Kp.mk (HC.out.step hbl)
    have HY := Kp.mk (HY.out.step hbl)
    have HX := Kp.mk (HX.out.step hbl)
    clear hbl
    generalize v2.drew = v3 at *
    have kHA0 := HA.out.c0
    have kHA1 := HA.out.c1
    have kHC0 := HC.out.c0
    have kHC1 := HC.out.c1
    have kHY0 := HY.out.c0
    have kHY1 := HY.out.c1
    have kHX0 := HX.out.c0
    have kHX1 := HX.out.c1
    go_upto_region 9 with fail
    have hbl := (Below.refl v3.heap.size v3).drew
    have HBz := Kp.mk (HB.out.step hbl)
    have HAz := Kp.mk (HA.out.step hbl)
    have HCz := Kp.mk (HC.out.step hbl)
    have HYz := Kp.mk (HY.out.step hbl)
    have HXz := Kp.mk (HX.out.step hbl)
    have kHA0z := HAz.out.c0
    have kHA1z := HAz.out.c1
    have kHC0z := HCz.out.c0
    have kHC1z := HCz.out.c1
    have kHY0z := HYz.out.c0
    have kHY1z := HYz.out.c1
    have kHX0z := HXz.out.c0
    have kHX1z := HXz.out.c1
    clear hbl
    go_region_held3 (fun w' => w'.cell? ⟨w.heap.size, 0, none⟩ = some (.int .i8 f) ∧ w'.cell? ⟨w.heap.size, 1, none⟩ = some (.int .i64 d) ∧ w'.cell? ⟨w.heap.size + 1, 0, none⟩ = some (.int .i8 f) ∧ w'.cell? ⟨w.heap.size + 1, 1, none⟩ = some (.int .i64 e) ∧ w'.cell? ⟨g1, 0, none⟩ = some (.int .i8 f) ∧ w'.cell? ⟨g1, 1, none⟩ = some (.int .i64 d) ∧ w'.cell? ⟨g1 + 1, 0, none⟩ = some (.int .i8 f) ∧ w'.cell? ⟨g1 + 1, 1, none⟩ = some (.int .i64 e)) (first | (with_reducible exact ⟨kHA0, kHA1, kHC0, kHC1, kHY0, kHY1, kHX0, kHX1⟩) | (with_reducible exact ⟨kHA0z, kHA1z, kHC0z, kHC1z, kHY0z, kHY1z, kHX0z, kHX1z⟩) | (with_reducible exact ⟨kHA0_u5, kHA1_u5, kHC0_u5, kHC1_u5, kHY0_u5, kHY1_u5, kHX0_u5, kHX1_u5⟩) | (with_reducible exact ⟨kHA0_u6, kHA1_u6, kHC0_u6, kHC1_u6, kHY0_u6, kHY1_u6, kHX0_u6, kHX1_u6⟩) | (with_reducible exact ⟨kHA0_u7, kHA1_u7, kHC0_u7, kHC1_u7, kHY0_u7, kHY1_u7, kHX0_u7, kHX1_u7⟩) | go_keep)
      (first
        | (go_at_call 10; (with_reducible show Calls _ _ _ v3.drew _); (with_reducible refine (r6.out _ HBz.out.below).mono ?_); rintro e u5 ⟨rfl, hb⟩; have HB_u5 := Kp.mk (HBz.out.step hb); have HA_u5 := Kp.mk (HAz.out.step hb); have HC_u5 := Kp.mk (HCz.out.step hb); have HY_u5 := Kp.mk (HYz.out.step hb); have HX_u5 := Kp.mk (HXz.out.step hb); have kHA0_u5 := HA_u5.out.c0; have kHA1_u5 := HA_u5.out.c1; have kHC0_u5 := HC_u5.out.c0; have kHC1_u5 := HC_u5.out.c1; have kHY0_u5 := HY_u5.out.c0; have kHY1_u5 := HY_u5.out.c1; have kHX0_u5 := HX_u5.out.c0; have kHX1_u5 := HX_u5.out.c1; clear hb)
        | (go_at_call 11; (with_reducible show Calls _ _ _ u5 _); (with_reducible refine (r7.out _ HB_u5.out.below).mono ?_); rintro e u6 ⟨rfl, hb⟩; have HB_u6 := Kp.mk (HB_u5.out.step hb); have HA_u6 := Kp.mk (HA_u5.out.step hb); have HC_u6 := Kp.mk (HC_u5.out.step hb); have HY_u6 := Kp.mk (HY_u5.out.step hb); have HX_u6 := Kp.mk (HX_u5.out.step hb); have kHA0_u6 := HA_u6.out.c0; have kHA1_u6 := HA_u6.out.c1; have kHC0_u6 := HC_u6.out.c0; have kHC1_u6 := HC_u6.out.c1; have kHY0_u6 := HY_u6.out.c0; have kHY1_u6 := HY_u6.out.c1; have kHX0_u6 := HX_u6.out.c0; have kHX1_u6 := HX_u6.out.c1; clear hb)
        | (go_at_call 12; (with_reducible show Calls _ _ _ u6 _); (with_reducible refine (rl.out _ HB_u6.out.below).mono ?_); rintro e u7 ⟨rfl, hb⟩; have HB_u7 := Kp.mk (HB_u6.out.step hb); have HA_u7 := Kp.mk (HA_u6.out.step hb); have HC_u7 := Kp.mk (HC_u6.out.step hb); have HY_u7 := Kp.mk (HY_u6.out.step hb); have HX_u7 := Kp.mk (HX_u6.out.step hb); have kHA0_u7 := HA_u7.out.c0; have kHA1_u7 := HA_u7.out.c1; have kHC0_u7 := HC_u7.out.c0; have kHC1_u7 := HC_u7.out.c1; have kHY0_u7 := HY_u7.out.c0; have kHY1_u7 := HY_u7.out.c1; have kHX0_u7 := HX_u7.out.c0; have kHX1_u7 := HX_u7.out.c1; clear hb))
    have HB := HB_u7
    have HA := HA_u7
    have HC := HC_u7
    have HY := HY_u7
    have HX := HX_u7
    have kHA0 := HA.out.c0
    have kHA1 := HA.out.c1
    have kHC0 := HC.out.c0
    have kHC1 := HC.out.c1
    have kHY0 := HY.out.c0
    have kHY1 := HY.out.c1
    have kHX0 := HX.out.c0
    have kHX1 := HX.out.c1
    go_wp2_with fail
    go_ret
    exact ⟨rfl, HB.out.below⟩
end Go.Proofs.YtbnlomjlapnoaaaDoor
