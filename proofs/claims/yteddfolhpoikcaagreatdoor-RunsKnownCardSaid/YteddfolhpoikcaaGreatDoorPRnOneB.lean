/-
 DERIVED. WALKS of the law RunsOne, where the first day is not the greater one, given the contracts of package runs. Written by mkrn3.py.
-/
import Derived.Test.YteddfolhpoikcaaGreatDoorPCo
import Derived.Test.YteddfolhpoikcaaGreatDoorPRf
import Derived.Test.YteddfolhpoikcaaGreatDoorPRnOneP
import Derived.Test.YteddfolhpoikcaaGreatDoorPHand
namespace Go.Proofs.YteddfolhpoikcaaGreatDoor
open Go.RowKit
set_option maxRecDepth 100000

set_option maxHeartbeats 16000000 in
theorem lawOne_l_bad {I : World → Prop} (C : RunFns I) (r : Rn) (k x y : Int) (w : World) (hI : I w) (hr : r.In) (k0 : -9223372036854775808 ≤ k) (k1 : k ≤ 9223372036854775807) (x0 : -9223372036854775808 ≤ x) (x1 : x ≤ 9223372036854775807) (y0 : -9223372036854775808 ≤ y) (y1 : y ≤ 9223372036854775807) (hz : x ≤ y) {c : Int} (h1 : chkR r = c) (hn : ¬ c = 0) :
 Calls Tryz.prog 4 #[.agg #[.int .i8 r.f, .int .i64 r.d, .int .i8 r.g, .int .i64 r.e], .int .i64 k, .agg #[.int .i64 x, .int .i64 y]] w fun e w' => e = .returned (.bool true) ∧ Below w.heap.size w w' := by
 have HA := Kp.mk (pz_two w r x y).1
 have HZ := Kp.mk (pz_two w r x y).2
 have HB := Kp.mk (bl_of HA.1)
 have HI := Kp.mk (fun (v : World) (h : Below w.heap.size w v) => C.keep hI h)
 clear hI
 have rl := Kp.mk (fun v (hw : Below w.heap.size w v) => C.lives v (HI.1 v hw))
 have e1 := Kp.mk (fun w => refRChk_is h1 w)
 obtain ⟨o, ho⟩ : ∃ o : Rn, (⟨0, x, 0, y⟩ : Rn) = o := ⟨_, rfl⟩
 have e2 : Kp (∀ u, Below w.heap.size w u → Calls Tryz.prog 27 #[.int .i64 x, .int .i64 y] u fun e w' => e = .returned (.tuple #[.agg #[.int .i8 o.f, .int .i64 o.d, .int .i8 o.g, .int .i64 o.e], .int .i64 0]) ∧ Below u.heap.size u w') := Kp.mk (fun u hw => by rw [← ho]; exact C.of_ok u (HI.1 u hw) x0 x1 y0 y1 hz)
 have e4 : Kp (∀ u, Calls Tryz.prog 29 #[.int .i64 x, .int .i64 y] u fun e w' => e = .returned (.agg #[.int .i8 o.f, .int .i64 o.d, .int .i8 o.g, .int .i64 o.e]) ∧ Below u.heap.size u w') := Kp.mk (fun u => by rw [← ho]; exact days_is x y u)
 have e3 := Kp.mk (fun w => gives_ok o w)
 have t1 : decide (y < x) = false := decide_eq_false (by omega)
 have t2 : x ≤ y := by omega
 have t3 : (c != 0) = true := by rw [bne_iff_ne]; exact hn
 obtain ⟨s, hs⟩ : ∃ s : Rn, zeroR = s := ⟨_, rfl⟩
 have l1 := Kp.mk (fun u (hw : Below w.heap.size w u) => C.len_bad u (HI.1 u hw) hr h1 hn)
 have s1 : Kp (∀ u, Below w.heap.size w u → Calls Tryz.prog 26 #[rv r, .int .i64 k] u fun e w' => e = .returned (.tuple #[.agg #[.int .i8 s.f, .int .i64 s.d, .int .i8 s.g, .int .i64 s.e], .int .i64 c]) ∧ Below u.heap.size u w') := Kp.mk (fun u hw => by rw [← hs]; exact C.shift_bad u (HI.1 u hw) hr h1 hn k0 k1)
 have g1 : Kp (∀ u, Calls Tryz.prog 28 #[rv s, .int .i64 c, rv r, .int .i64 c] u fun e w' => e = .returned (.bool true) ∧ Below u.heap.size u w') := Kp.mk (fun u => by rw [← hs]; exact gives_bad hn r u)
 clear C hr k0 k1 x0 x1 y0 y1 hz h1 ho hs hn
 go_enter Tryz.func4, Tryz.ntmps4
 go_upto_region 1 with fail
 generalize (w.alloc (.cells #[.int .i8 r.f, .int .i64 r.d, .int .i8 r.g, .int .i64 r.e] 26)).alloc (.cells #[.int .i64 x, .int .i64 y] 39) = w0 at *
 obtain ⟨kA0, kA1, kA2, kA3⟩ := HA.1.cs
 have kZ0 := HZ.1.c0
 have kZ1 := HZ.1.c1
 go_wp2_with fail
 refine (e1.1 _).mono ?_
 rintro e u1 ⟨rfl, hbl⟩
 clear kA0 kA1 kA2 kA3 kZ0 kZ1
 have HB := Kp.mk (HB.1.step hbl)
 have HA := Kp.mk (HA.1.step hbl)
 have HZ := Kp.mk (HZ.1.step hbl)
 clear hbl
 obtain ⟨kA0, kA1, kA2, kA3⟩ := HA.1.cs
 have kZ0 := HZ.1.c0
 have kZ1 := HZ.1.c1
 go_wp2_with fail
 refine (l1.1 _ HB.1.below).mono ?_
 rintro e u2 ⟨rfl, hbl⟩
 clear kA0 kA1 kA2 kA3 kZ0 kZ1
 have HB := Kp.mk (HB.1.step hbl)
 have HA := Kp.mk (HA.1.step hbl)
 have HZ := Kp.mk (HZ.1.step hbl)
 clear hbl
 obtain ⟨kA0, kA1, kA2, kA3⟩ := HA.1.cs
 have kZ0 := HZ.1.c0
 have kZ1 := HZ.1.c1
 go_wp2_with fail
 refine (s1.1 _ HB.1.below).mono ?_
 rintro e u3 ⟨rfl, hbl⟩
 clear kA0 kA1 kA2 kA3 kZ0 kZ1
 have HB := Kp.mk (HB.1.step hbl)
 have HA := Kp.mk (HA.1.step hbl)
 have HZ := Kp.mk (HZ.1.step hbl)
 clear hbl
 obtain ⟨kA0, kA1, kA2, kA3⟩ := HA.1.cs
 have kZ0 := HZ.1.c0
 have kZ1 := HZ.1.c1
 go_upto_region 4 with fail
 clear kA0 kA1 kA2 kA3 kZ0 kZ1
 have HX := Kp.mk (rg_new s 26 HB.1.below)
 have hbl := (Below.refl u3.heap.size u3).alloc (Nat.le_refl _) (.cells #[.int .i8 s.f, .int .i64 s.d, .int .i8 s.g, .int .i64 s.e] 26)
 have HB := Kp.mk (HB.1.step hbl)
 have HA := Kp.mk (HA.1.step hbl)
 have HZ := Kp.mk (HZ.1.step hbl)
 clear hbl
 generalize u3.alloc (.cells #[.int .i8 s.f, .int .i64 s.d, .int .i8 s.g, .int .i64 s.e] 26) = u4 at *
 generalize u3.heap.size = b1 at *
 obtain ⟨kA0, kA1, kA2, kA3⟩ := HA.1.cs
 have kZ0 := HZ.1.c0
 have kZ1 := HZ.1.c1
 obtain ⟨kX0, kX1, kX2, kX3⟩ := HX.1.cs
 go_wp2_with fail
 refine (e2.1 _ HB.1.below).mono ?_
 rintro e u5 ⟨rfl, hbl⟩
 clear kA0 kA1 kA2 kA3 kZ0 kZ1 kX0 kX1 kX2 kX3
 have HB := Kp.mk (HB.1.step hbl)
 have HA := Kp.mk (HA.1.step hbl)
 have HZ := Kp.mk (HZ.1.step hbl)
 have HX := Kp.mk (HX.1.step hbl)
 clear hbl
 obtain ⟨kA0, kA1, kA2, kA3⟩ := HA.1.cs
 have kZ0 := HZ.1.c0
 have kZ1 := HZ.1.c1
 obtain ⟨kX0, kX1, kX2, kX3⟩ := HX.1.cs
 go_upto_region 5 with fail
 clear kA0 kA1 kA2 kA3 kZ0 kZ1 kX0 kX1 kX2 kX3
 have HO := Kp.mk (rg_new o 26 HB.1.below)
 have hbl := (Below.refl u5.heap.size u5).alloc (Nat.le_refl _) (.cells #[.int .i8 o.f, .int .i64 o.d, .int .i8 o.g, .int .i64 o.e] 26)
 have HB := Kp.mk (HB.1.step hbl)
 have HA := Kp.mk (HA.1.step hbl)
 have HZ := Kp.mk (HZ.1.step hbl)
 have HX := Kp.mk (HX.1.step hbl)
 clear hbl
 generalize u5.alloc (.cells #[.int .i8 o.f, .int .i64 o.d, .int .i8 o.g, .int .i64 o.e] 26) = u6 at *
 generalize u5.heap.size = b2 at *
 obtain ⟨kA0, kA1, kA2, kA3⟩ := HA.1.cs
 have kZ0 := HZ.1.c0
 have kZ1 := HZ.1.c1
 obtain ⟨kX0, kX1, kX2, kX3⟩ := HX.1.cs
 obtain ⟨kO0, kO1, kO2, kO3⟩ := HO.1.cs
 have hbl := (Below.refl u6.heap.size u6).drew
 have HBz := Kp.mk (HB.1.step hbl)
 have HAz := Kp.mk (HA.1.step hbl)
 have HZz := Kp.mk (HZ.1.step hbl)
 have HXz := Kp.mk (HX.1.step hbl)
 have HOz := Kp.mk (HO.1.step hbl)
 have kA0z := HAz.1.c0
 have kA1z := HAz.1.c1
 have kA2z := HAz.1.c2
 have kA3z := HAz.1.c3
 have kZ0z := HZz.1.c0
 have kZ1z := HZz.1.c1
 have kX0z := HXz.1.c0
 have kX1z := HXz.1.c1
 have kX2z := HXz.1.c2
 have kX3z := HXz.1.c3
 have kO0z := HOz.1.c0
 have kO1z := HOz.1.c1
 have kO2z := HOz.1.c2
 have kO3z := HOz.1.c3
 clear hbl
 clear kA0 kA1 kA2 kA3 kZ0 kZ1 kX0 kX1 kX2 kX3 kO0 kO1 kO2 kO3
 refine wp_region_held_drew (S := fun w' => w'.cell? ⟨w.heap.size, 0, none⟩ = some (.int .i8 r.f) ∧ w'.cell? ⟨w.heap.size, 1, none⟩ = some (.int .i64 r.d) ∧ w'.cell? ⟨w.heap.size, 2, none⟩ = some (.int .i8 r.g) ∧ w'.cell? ⟨w.heap.size, 3, none⟩ = some (.int .i64 r.e) ∧ w'.cell? ⟨w.heap.size + 1, 0, none⟩ = some (.int .i64 x) ∧ w'.cell? ⟨w.heap.size + 1, 1, none⟩ = some (.int .i64 y) ∧ w'.cell? ⟨b1, 0, none⟩ = some (.int .i8 s.f) ∧ w'.cell? ⟨b1, 1, none⟩ = some (.int .i64 s.d) ∧ w'.cell? ⟨b1, 2, none⟩ = some (.int .i8 s.g) ∧ w'.cell? ⟨b1, 3, none⟩ = some (.int .i64 s.e) ∧ w'.cell? ⟨b2, 0, none⟩ = some (.int .i8 o.f) ∧ w'.cell? ⟨b2, 1, none⟩ = some (.int .i64 o.d) ∧ w'.cell? ⟨b2, 2, none⟩ = some (.int .i8 o.g) ∧ w'.cell? ⟨b2, 3, none⟩ = some (.int .i64 o.e)) (by kernel_rfl) ?_ (fun hH => ?_)
 ·with_reducible exact ⟨kA0z, kA1z, kA2z, kA3z, kZ0z, kZ1z, kX0z, kX1z, kX2z, kX3z, kO0z, kO1z, kO2z, kO3z⟩
 refine tk 0 ?_ rfl hH ?_ ?_
 rotate_left
 ·(intro w hSw; (try dsimp only at hSw); go_simp; try with_reducible rfl)
 try simp only [pt]
 refine tk 1 ?_ rfl hH ?_ ?_
 rotate_left
 ·(intro w hSw; (try dsimp only at hSw); go_simp; try with_reducible rfl)
 try simp only [pt]
 refine tk 2 ?_ rfl hH ?_ ?_
 rotate_left
 ·(intro w hSw; (try dsimp only at hSw); go_simp; try with_reducible rfl)
 try simp only [pt]
 refine tk 3 ?_ rfl hH ?_ ?_
 rotate_left
 ·(intro w hSw; (try dsimp only at hSw); go_simp; try with_reducible rfl)
 try simp only [pt]
 refine tk 4 ?_ rfl hH ?_ ?_
 rotate_left
 ·(intro w hSw; (try dsimp only at hSw); go_simp; try with_reducible rfl)
 try simp only [pt]
 refine tk 5 ?_ rfl hH ?_ ?_
 rotate_left
 ·(intro w hSw; (try dsimp only at hSw); go_simp; try with_reducible rfl)
 try simp only [pt]
 refine takeOut (i := 6) rfl (by kernel_rfl) (by kernel_rfl) (by kernel_rfl) (fun _ _ _ h => h) (by rfl) hH ?_
 try simp only [pt]
 refine takeOut (i := 7) rfl (by kernel_rfl) (by kernel_rfl) (by kernel_rfl) (fun _ _ _ h => h) (by rfl) hH ?_
 try simp only [pt]
 refine takeOut (i := 8) rfl (by kernel_rfl) (by kernel_rfl) (by kernel_rfl) (fun _ _ _ h => h) (by rfl) hH ?_
 try simp only [pt]
 refine takeOut (i := 9) rfl (by kernel_rfl) (by kernel_rfl) (by kernel_rfl) (fun _ _ _ h => h) (by rfl) hH ?_
 try simp only [pt]
 refine takeOut (i := 10) rfl (by kernel_rfl) (by kernel_rfl) (by kernel_rfl) (fun _ _ _ h => h) (by rfl) hH ?_
 try simp only [pt]
 refine tk 11 ?_ rfl hH ?_ ?_
 rotate_left
 ·(intro w hSw; (try dsimp only at hSw); go_simp; try with_reducible rfl)
 try simp only [pt]
 refine tk 12 ?_ rfl hH ?_ ?_
 rotate_left
 ·(intro w hSw; (try dsimp only at hSw); go_simp; try with_reducible rfl)
 try simp only [pt]
 refine tk 13 ?_ rfl hH ?_ ?_
 rotate_left
 ·(intro w hSw; (try dsimp only at hSw); go_simp; try with_reducible rfl)
 try simp only [pt]
 refine tk 14 ?_ rfl hH ?_ ?_
 rotate_left
 ·(intro w hSw; (try dsimp only at hSw); go_simp; try with_reducible rfl)
 try simp only [pt]
 refine tk 15 ?_ rfl hH ?_ ?_
 rotate_left
 ·(intro w hSw; (try dsimp only at hSw); go_simp; try with_reducible rfl)
 try simp only [pt]
 refine tk 16 ?_ rfl hH ?_ ?_
 rotate_left
 ·(intro w hSw; (try dsimp only at hSw); go_simp; try with_reducible rfl)
 try simp only [pt]
 refine tk 17 ?_ rfl hH ?_ ?_
 rotate_left
 ·(intro w hSw; (try dsimp only at hSw); go_simp; try with_reducible rfl)
 try simp only [pt]
 refine tk 18 ?_ rfl hH ?_ ?_
 rotate_left
 ·(intro w hSw; (try dsimp only at hSw); go_simp; try with_reducible rfl)
 try simp only [pt]
 refine tk 19 ?_ rfl hH ?_ ?_
 rotate_left
 ·(intro w hSw; (try dsimp only at hSw); go_simp; try with_reducible rfl)
 try simp only [pt]
 refine tk 20 ?_ rfl hH ?_ ?_
 rotate_left
 ·(intro w hSw; (try dsimp only at hSw); go_simp; try with_reducible rfl)
 try simp only [pt]
 refine tk 21 ?_ rfl hH ?_ ?_
 rotate_left
 ·(intro w hSw; (try dsimp only at hSw); go_simp; try with_reducible rfl)
 try simp only [pt]
 refine tk 22 ?_ rfl hH ?_ ?_
 rotate_left
 ·(intro w hSw; (try dsimp only at hSw); go_simp; try with_reducible rfl)
 try simp only [pt]
 refine tk 23 ?_ rfl hH ?_ ?_
 rotate_left
 ·(intro w hSw; (try dsimp only at hSw); go_simp; try with_reducible rfl)
 try simp only [pt]
 refine tk 24 ?_ rfl hH ?_ ?_
 rotate_left
 ·(intro w hSw; (try dsimp only at hSw); go_simp; try with_reducible rfl)
 try simp only [pt]
 refine rd [25] ?_
 refine AllReadyH.cons (dropAt rfl) (fun K hK => ?_) AllReadyH.nil
 go_simp
 go_at_call 29
 with_reducible refine (e4.1 _).mono ?_
 rintro e u7 ⟨rfl, hb⟩
 have HB_u7 := Kp.mk (HBz.1.step hb)
 have HA_u7 := Kp.mk (HAz.1.step hb)
 have HZ_u7 := Kp.mk (HZz.1.step hb)
 have HX_u7 := Kp.mk (HXz.1.step hb)
 have HO_u7 := Kp.mk (HOz.1.step hb)
 have kA0_u7 := HA_u7.1.c0
 have kA1_u7 := HA_u7.1.c1
 have kA2_u7 := HA_u7.1.c2
 have kA3_u7 := HA_u7.1.c3
 have kZ0_u7 := HZ_u7.1.c0
 have kZ1_u7 := HZ_u7.1.c1
 have kX0_u7 := HX_u7.1.c0
 have kX1_u7 := HX_u7.1.c1
 have kX2_u7 := HX_u7.1.c2
 have kX3_u7 := HX_u7.1.c3
 have kO0_u7 := HO_u7.1.c0
 have kO1_u7 := HO_u7.1.c1
 have kO2_u7 := HO_u7.1.c2
 have kO3_u7 := HO_u7.1.c3
 clear hH kA0z kA1z kA2z kA3z kZ0z kZ1z kX0z kX1z kX2z kX3z kO0z kO1z kO2z kO3z HBz HAz HZz HXz HOz hb
 go_wp2_with fail
 refine hK.out _ _ ?_ (fun hH => ?_)
 ·with_reducible exact ⟨kA0_u7, kA1_u7, kA2_u7, kA3_u7, kZ0_u7, kZ1_u7, kX0_u7, kX1_u7, kX2_u7, kX3_u7, kO0_u7, kO1_u7, kO2_u7, kO3_u7⟩
 clear hK K
 try simp only [pt]
 refine rd [26] ?_
 refine AllReadyH.cons (dropAt rfl) (fun K hK => ?_) AllReadyH.nil
 go_simp
 go_at_call 28
 with_reducible refine (e3.1 _).mono ?_
 rintro e u8 ⟨rfl, hb⟩
 have HB_u8 := Kp.mk (HB_u7.1.step hb)
 have HA_u8 := Kp.mk (HA_u7.1.step hb)
 have HZ_u8 := Kp.mk (HZ_u7.1.step hb)
 have HX_u8 := Kp.mk (HX_u7.1.step hb)
 have HO_u8 := Kp.mk (HO_u7.1.step hb)
 have kA0_u8 := HA_u8.1.c0
 have kA1_u8 := HA_u8.1.c1
 have kA2_u8 := HA_u8.1.c2
 have kA3_u8 := HA_u8.1.c3
 have kZ0_u8 := HZ_u8.1.c0
 have kZ1_u8 := HZ_u8.1.c1
 have kX0_u8 := HX_u8.1.c0
 have kX1_u8 := HX_u8.1.c1
 have kX2_u8 := HX_u8.1.c2
 have kX3_u8 := HX_u8.1.c3
 have kO0_u8 := HO_u8.1.c0
 have kO1_u8 := HO_u8.1.c1
 have kO2_u8 := HO_u8.1.c2
 have kO3_u8 := HO_u8.1.c3
 clear hH kA0_u7 kA1_u7 kA2_u7 kA3_u7 kZ0_u7 kZ1_u7 kX0_u7 kX1_u7 kX2_u7 kX3_u7 kO0_u7 kO1_u7 kO2_u7 kO3_u7 HB_u7 HA_u7 HZ_u7 HX_u7 HO_u7 hb
 go_wp2_with fail
 refine hK.out _ _ ?_ (fun hH => ?_)
 ·with_reducible exact ⟨kA0_u8, kA1_u8, kA2_u8, kA3_u8, kZ0_u8, kZ1_u8, kX0_u8, kX1_u8, kX2_u8, kX3_u8, kO0_u8, kO1_u8, kO2_u8, kO3_u8⟩
 clear hK K
 try simp only [pt]
 refine tk 27 ?_ rfl hH ?_ ?_
 rotate_left
 ·(intro w hSw; (try dsimp only at hSw); go_simp; try with_reducible rfl)
 try simp only [pt]
 refine tk 28 ?_ rfl hH ?_ ?_
 rotate_left
 ·(intro w hSw; (try dsimp only at hSw); go_simp; try with_reducible rfl)
 try simp only [pt]
 refine tk 29 ?_ rfl hH ?_ ?_
 rotate_left
 ·(intro w hSw; (try dsimp only at hSw); go_simp; try with_reducible rfl)
 try simp only [pt]
 refine wpAnyH_done (by kernel_rfl) ?_ _
 have HB := HB_u8
 have HA := HA_u8
 have HZ := HZ_u8
 have HX := HX_u8
 have HO := HO_u8
 obtain ⟨kA0, kA1, kA2, kA3⟩ := HA.1.cs
 have kZ0 := HZ.1.c0
 have kZ1 := HZ.1.c1
 obtain ⟨kX0, kX1, kX2, kX3⟩ := HX.1.cs
 obtain ⟨kO0, kO1, kO2, kO3⟩ := HO.1.cs
 clear kA0 kA1 kA2 kA3 kZ0 kZ1 kX0 kX1 kX2 kX3 kO0 kO1 kO2 kO3
 clear HO HZ
 obtain ⟨kA0, kA1, kA2, kA3⟩ := HA.1.cs
 obtain ⟨kX0, kX1, kX2, kX3⟩ := HX.1.cs
 go_wp2_with fail
 refine (g1.1 _).mono ?_
 rintro e u9 ⟨rfl, hbl⟩
 clear kA0 kA1 kA2 kA3 kX0 kX1 kX2 kX3
 have HB := Kp.mk (HB.1.step hbl)
 have HA := Kp.mk (HA.1.step hbl)
 have HX := Kp.mk (HX.1.step hbl)
 clear hbl
 obtain ⟨kA0, kA1, kA2, kA3⟩ := HA.1.cs
 obtain ⟨kX0, kX1, kX2, kX3⟩ := HX.1.cs
 go_wp2_with fail
 refine (rl.1 _ HB.1.below).mono ?_
 rintro e u10 ⟨rfl, hbl⟩
 clear kA0 kA1 kA2 kA3 kX0 kX1 kX2 kX3
 have HB := Kp.mk (HB.1.step hbl)
 have HA := Kp.mk (HA.1.step hbl)
 have HX := Kp.mk (HX.1.step hbl)
 clear hbl
 obtain ⟨kA0, kA1, kA2, kA3⟩ := HA.1.cs
 obtain ⟨kX0, kX1, kX2, kX3⟩ := HX.1.cs
 go_wp2_with fail
 go_ret
 exact ⟨rfl, HB.1.below⟩
set_option maxHeartbeats 16000000 in
theorem lawOne_l_over {I : World → Prop} (C : RunFns I) (r : Rn) (k x y : Int) (w : World) (hI : I w) (hr : r.In) (k0 : -9223372036854775808 ≤ k) (k1 : k ≤ 9223372036854775807) (x0 : -9223372036854775808 ≤ x) (x1 : x ≤ 9223372036854775807) (y0 : -9223372036854775808 ≤ y) (y1 : y ≤ 9223372036854775807) (hz : x ≤ y) (h1 : chkR r = 0) {s : Rn} {m : Int} (hm : MoveR r k s m) (h0 : ¬ m = 0) :
 Calls Tryz.prog 4 #[.agg #[.int .i8 r.f, .int .i64 r.d, .int .i8 r.g, .int .i64 r.e], .int .i64 k, .agg #[.int .i64 x, .int .i64 y]] w fun e w' => e = .returned (.bool true) ∧ Below w.heap.size w w' := by
 have HA := Kp.mk (pz_two w r x y).1
 have HZ := Kp.mk (pz_two w r x y).2
 have HB := Kp.mk (bl_of HA.1)
 have HI := Kp.mk (fun (v : World) (h : Below w.heap.size w v) => C.keep hI h)
 clear hI
 have rl := Kp.mk (fun v (hw : Below w.heap.size w v) => C.lives v (HI.1 v hw))
 have e1 := Kp.mk (fun w => refRChk_is h1 w)
 obtain ⟨o, ho⟩ : ∃ o : Rn, (⟨0, x, 0, y⟩ : Rn) = o := ⟨_, rfl⟩
 have e2 : Kp (∀ u, Below w.heap.size w u → Calls Tryz.prog 27 #[.int .i64 x, .int .i64 y] u fun e w' => e = .returned (.tuple #[.agg #[.int .i8 o.f, .int .i64 o.d, .int .i8 o.g, .int .i64 o.e], .int .i64 0]) ∧ Below u.heap.size u w') := Kp.mk (fun u hw => by rw [← ho]; exact C.of_ok u (HI.1 u hw) x0 x1 y0 y1 hz)
 have e4 : Kp (∀ u, Calls Tryz.prog 29 #[.int .i64 x, .int .i64 y] u fun e w' => e = .returned (.agg #[.int .i8 o.f, .int .i64 o.d, .int .i8 o.g, .int .i64 o.e]) ∧ Below u.heap.size u w') := Kp.mk (fun u => by rw [← ho]; exact days_is x y u)
 have e3 := Kp.mk (fun w => gives_ok o w)
 have t1 : decide (y < x) = false := decide_eq_false (by omega)
 have t2 : x ≤ y := by omega
 have oa := (chkR_zero hr).1 h1
 obtain ⟨n, hnn⟩ : ∃ n, lenN r = n := ⟨_, rfl⟩
 obtain ⟨d, hd⟩ : ∃ d, lenC r = d := ⟨_, rfl⟩
 have l1 := Kp.mk (fun u (hw : Below w.heap.size w u) => C.len_ok u (HI.1 u hw) hr h1 hnn hd)
 have l2 := Kp.mk (fun w => refRLen_is oa hnn hd w)
 have s1 := Kp.mk (fun u (hw : Below w.heap.size w u) => C.shift_ok u (HI.1 u hw) hr h1 k0 k1 hm)
 have s2 := Kp.mk (fun w => refShift_is hm hr k0 k1 w)
 have g1 := Kp.mk (fun w => gives_law (r := s) (c := m) (fun _ => by rcases moveR_err hm with q | q; exact absurd q h0; exact q.2) w)
 have t4 : (m != 0) = true := by rw [bne_iff_ne]; exact h0
 clear C hr k0 k1 x0 x1 y0 y1 hz h1 ho oa hnn hd hm h0
 go_enter Tryz.func4, Tryz.ntmps4
 go_upto_region 1 with fail
 generalize (w.alloc (.cells #[.int .i8 r.f, .int .i64 r.d, .int .i8 r.g, .int .i64 r.e] 26)).alloc (.cells #[.int .i64 x, .int .i64 y] 39) = w0 at *
 obtain ⟨kA0, kA1, kA2, kA3⟩ := HA.1.cs
 have kZ0 := HZ.1.c0
 have kZ1 := HZ.1.c1
 go_wp2_with fail
 refine (e1.1 _).mono ?_
 rintro e u1 ⟨rfl, hbl⟩
 clear kA0 kA1 kA2 kA3 kZ0 kZ1
 have HB := Kp.mk (HB.1.step hbl)
 have HA := Kp.mk (HA.1.step hbl)
 have HZ := Kp.mk (HZ.1.step hbl)
 clear hbl
 obtain ⟨kA0, kA1, kA2, kA3⟩ := HA.1.cs
 have kZ0 := HZ.1.c0
 have kZ1 := HZ.1.c1
 go_wp2_with fail
 refine (l1.1 _ HB.1.below).mono ?_
 rintro e u2 ⟨rfl, hbl⟩
 clear kA0 kA1 kA2 kA3 kZ0 kZ1
 have HB := Kp.mk (HB.1.step hbl)
 have HA := Kp.mk (HA.1.step hbl)
 have HZ := Kp.mk (HZ.1.step hbl)
 clear hbl
 obtain ⟨kA0, kA1, kA2, kA3⟩ := HA.1.cs
 have kZ0 := HZ.1.c0
 have kZ1 := HZ.1.c1
 go_wp2_with fail
 refine (s1.1 _ HB.1.below).mono ?_
 rintro e u3 ⟨rfl, hbl⟩
 clear kA0 kA1 kA2 kA3 kZ0 kZ1
 have HB := Kp.mk (HB.1.step hbl)
 have HA := Kp.mk (HA.1.step hbl)
 have HZ := Kp.mk (HZ.1.step hbl)
 clear hbl
 obtain ⟨kA0, kA1, kA2, kA3⟩ := HA.1.cs
 have kZ0 := HZ.1.c0
 have kZ1 := HZ.1.c1
 go_upto_region 4 with fail
 clear kA0 kA1 kA2 kA3 kZ0 kZ1
 have HX := Kp.mk (rg_new s 26 HB.1.below)
 have hbl := (Below.refl u3.heap.size u3).alloc (Nat.le_refl _) (.cells #[.int .i8 s.f, .int .i64 s.d, .int .i8 s.g, .int .i64 s.e] 26)
 have HB := Kp.mk (HB.1.step hbl)
 have HA := Kp.mk (HA.1.step hbl)
 have HZ := Kp.mk (HZ.1.step hbl)
 clear hbl
 generalize u3.alloc (.cells #[.int .i8 s.f, .int .i64 s.d, .int .i8 s.g, .int .i64 s.e] 26) = u4 at *
 generalize u3.heap.size = b1 at *
 obtain ⟨kA0, kA1, kA2, kA3⟩ := HA.1.cs
 have kZ0 := HZ.1.c0
 have kZ1 := HZ.1.c1
 obtain ⟨kX0, kX1, kX2, kX3⟩ := HX.1.cs
 go_wp2_with fail
 refine (e2.1 _ HB.1.below).mono ?_
 rintro e u5 ⟨rfl, hbl⟩
 clear kA0 kA1 kA2 kA3 kZ0 kZ1 kX0 kX1 kX2 kX3
 have HB := Kp.mk (HB.1.step hbl)
 have HA := Kp.mk (HA.1.step hbl)
 have HZ := Kp.mk (HZ.1.step hbl)
 have HX := Kp.mk (HX.1.step hbl)
 clear hbl
 obtain ⟨kA0, kA1, kA2, kA3⟩ := HA.1.cs
 have kZ0 := HZ.1.c0
 have kZ1 := HZ.1.c1
 obtain ⟨kX0, kX1, kX2, kX3⟩ := HX.1.cs
 go_upto_region 5 with fail
 clear kA0 kA1 kA2 kA3 kZ0 kZ1 kX0 kX1 kX2 kX3
 have HO := Kp.mk (rg_new o 26 HB.1.below)
 have hbl := (Below.refl u5.heap.size u5).alloc (Nat.le_refl _) (.cells #[.int .i8 o.f, .int .i64 o.d, .int .i8 o.g, .int .i64 o.e] 26)
 have HB := Kp.mk (HB.1.step hbl)
 have HA := Kp.mk (HA.1.step hbl)
 have HZ := Kp.mk (HZ.1.step hbl)
 have HX := Kp.mk (HX.1.step hbl)
 clear hbl
 generalize u5.alloc (.cells #[.int .i8 o.f, .int .i64 o.d, .int .i8 o.g, .int .i64 o.e] 26) = u6 at *
 generalize u5.heap.size = b2 at *
 obtain ⟨kA0, kA1, kA2, kA3⟩ := HA.1.cs
 have kZ0 := HZ.1.c0
 have kZ1 := HZ.1.c1
 obtain ⟨kX0, kX1, kX2, kX3⟩ := HX.1.cs
 obtain ⟨kO0, kO1, kO2, kO3⟩ := HO.1.cs
 have hbl := (Below.refl u6.heap.size u6).drew
 have HBz := Kp.mk (HB.1.step hbl)
 have HAz := Kp.mk (HA.1.step hbl)
 have HZz := Kp.mk (HZ.1.step hbl)
 have HXz := Kp.mk (HX.1.step hbl)
 have HOz := Kp.mk (HO.1.step hbl)
 have kA0z := HAz.1.c0
 have kA1z := HAz.1.c1
 have kA2z := HAz.1.c2
 have kA3z := HAz.1.c3
 have kZ0z := HZz.1.c0
 have kZ1z := HZz.1.c1
 have kX0z := HXz.1.c0
 have kX1z := HXz.1.c1
 have kX2z := HXz.1.c2
 have kX3z := HXz.1.c3
 have kO0z := HOz.1.c0
 have kO1z := HOz.1.c1
 have kO2z := HOz.1.c2
 have kO3z := HOz.1.c3
 clear hbl
 clear kA0 kA1 kA2 kA3 kZ0 kZ1 kX0 kX1 kX2 kX3 kO0 kO1 kO2 kO3
 refine wp_region_held_drew (S := fun w' => w'.cell? ⟨w.heap.size, 0, none⟩ = some (.int .i8 r.f) ∧ w'.cell? ⟨w.heap.size, 1, none⟩ = some (.int .i64 r.d) ∧ w'.cell? ⟨w.heap.size, 2, none⟩ = some (.int .i8 r.g) ∧ w'.cell? ⟨w.heap.size, 3, none⟩ = some (.int .i64 r.e) ∧ w'.cell? ⟨w.heap.size + 1, 0, none⟩ = some (.int .i64 x) ∧ w'.cell? ⟨w.heap.size + 1, 1, none⟩ = some (.int .i64 y) ∧ w'.cell? ⟨b1, 0, none⟩ = some (.int .i8 s.f) ∧ w'.cell? ⟨b1, 1, none⟩ = some (.int .i64 s.d) ∧ w'.cell? ⟨b1, 2, none⟩ = some (.int .i8 s.g) ∧ w'.cell? ⟨b1, 3, none⟩ = some (.int .i64 s.e) ∧ w'.cell? ⟨b2, 0, none⟩ = some (.int .i8 o.f) ∧ w'.cell? ⟨b2, 1, none⟩ = some (.int .i64 o.d) ∧ w'.cell? ⟨b2, 2, none⟩ = some (.int .i8 o.g) ∧ w'.cell? ⟨b2, 3, none⟩ = some (.int .i64 o.e)) (by kernel_rfl) ?_ (fun hH => ?_)
 ·with_reducible exact ⟨kA0z, kA1z, kA2z, kA3z, kZ0z, kZ1z, kX0z, kX1z, kX2z, kX3z, kO0z, kO1z, kO2z, kO3z⟩
 refine tk 0 ?_ rfl hH ?_ ?_
 rotate_left
 ·(intro w hSw; (try dsimp only at hSw); go_simp; try with_reducible rfl)
 try simp only [pt]
 refine tk 1 ?_ rfl hH ?_ ?_
 rotate_left
 ·(intro w hSw; (try dsimp only at hSw); go_simp; try with_reducible rfl)
 try simp only [pt]
 refine tk 2 ?_ rfl hH ?_ ?_
 rotate_left
 ·(intro w hSw; (try dsimp only at hSw); go_simp; try with_reducible rfl)
 try simp only [pt]
 refine tk 3 ?_ rfl hH ?_ ?_
 rotate_left
 ·(intro w hSw; (try dsimp only at hSw); go_simp; try with_reducible rfl)
 try simp only [pt]
 refine tk 4 ?_ rfl hH ?_ ?_
 rotate_left
 ·(intro w hSw; (try dsimp only at hSw); go_simp; try with_reducible rfl)
 try simp only [pt]
 refine tk 5 ?_ rfl hH ?_ ?_
 rotate_left
 ·(intro w hSw; (try dsimp only at hSw); go_simp; try with_reducible rfl)
 try simp only [pt]
 refine takeOut (i := 6) rfl (by kernel_rfl) (by kernel_rfl) (by kernel_rfl) (fun _ _ _ h => h) (by rfl) hH ?_
 try simp only [pt]
 refine takeOut (i := 7) rfl (by kernel_rfl) (by kernel_rfl) (by kernel_rfl) (fun _ _ _ h => h) (by rfl) hH ?_
 try simp only [pt]
 refine takeOut (i := 8) rfl (by kernel_rfl) (by kernel_rfl) (by kernel_rfl) (fun _ _ _ h => h) (by rfl) hH ?_
 try simp only [pt]
 refine takeOut (i := 9) rfl (by kernel_rfl) (by kernel_rfl) (by kernel_rfl) (fun _ _ _ h => h) (by rfl) hH ?_
 try simp only [pt]
 refine takeOut (i := 10) rfl (by kernel_rfl) (by kernel_rfl) (by kernel_rfl) (fun _ _ _ h => h) (by rfl) hH ?_
 try simp only [pt]
 refine tk 11 ?_ rfl hH ?_ ?_
 rotate_left
 ·(intro w hSw; (try dsimp only at hSw); go_simp; try with_reducible rfl)
 try simp only [pt]
 refine tk 12 ?_ rfl hH ?_ ?_
 rotate_left
 ·(intro w hSw; (try dsimp only at hSw); go_simp; try with_reducible rfl)
 try simp only [pt]
 refine tk 13 ?_ rfl hH ?_ ?_
 rotate_left
 ·(intro w hSw; (try dsimp only at hSw); go_simp; try with_reducible rfl)
 try simp only [pt]
 refine tk 14 ?_ rfl hH ?_ ?_
 rotate_left
 ·(intro w hSw; (try dsimp only at hSw); go_simp; try with_reducible rfl)
 try simp only [pt]
 refine tk 15 ?_ rfl hH ?_ ?_
 rotate_left
 ·(intro w hSw; (try dsimp only at hSw); go_simp; try with_reducible rfl)
 try simp only [pt]
 refine tk 16 ?_ rfl hH ?_ ?_
 rotate_left
 ·(intro w hSw; (try dsimp only at hSw); go_simp; try with_reducible rfl)
 try simp only [pt]
 refine tk 17 ?_ rfl hH ?_ ?_
 rotate_left
 ·(intro w hSw; (try dsimp only at hSw); go_simp; try with_reducible rfl)
 try simp only [pt]
 refine tk 18 ?_ rfl hH ?_ ?_
 rotate_left
 ·(intro w hSw; (try dsimp only at hSw); go_simp; try with_reducible rfl)
 try simp only [pt]
 refine tk 19 ?_ rfl hH ?_ ?_
 rotate_left
 ·(intro w hSw; (try dsimp only at hSw); go_simp; try with_reducible rfl)
 try simp only [pt]
 refine tk 20 ?_ rfl hH ?_ ?_
 rotate_left
 ·(intro w hSw; (try dsimp only at hSw); go_simp; try with_reducible rfl)
 try simp only [pt]
 refine tk 21 ?_ rfl hH ?_ ?_
 rotate_left
 ·(intro w hSw; (try dsimp only at hSw); go_simp; try with_reducible rfl)
 try simp only [pt]
 refine tk 22 ?_ rfl hH ?_ ?_
 rotate_left
 ·(intro w hSw; (try dsimp only at hSw); go_simp; try with_reducible rfl)
 try simp only [pt]
 refine tk 23 ?_ rfl hH ?_ ?_
 rotate_left
 ·(intro w hSw; (try dsimp only at hSw); go_simp; try with_reducible rfl)
 try simp only [pt]
 refine tk 24 ?_ rfl hH ?_ ?_
 rotate_left
 ·(intro w hSw; (try dsimp only at hSw); go_simp; try with_reducible rfl)
 try simp only [pt]
 refine rd [25] ?_
 refine AllReadyH.cons (dropAt rfl) (fun K hK => ?_) AllReadyH.nil
 go_simp
 go_at_call 29
 with_reducible refine (e4.1 _).mono ?_
 rintro e u7 ⟨rfl, hb⟩
 have HB_u7 := Kp.mk (HBz.1.step hb)
 have HA_u7 := Kp.mk (HAz.1.step hb)
 have HZ_u7 := Kp.mk (HZz.1.step hb)
 have HX_u7 := Kp.mk (HXz.1.step hb)
 have HO_u7 := Kp.mk (HOz.1.step hb)
 have kA0_u7 := HA_u7.1.c0
 have kA1_u7 := HA_u7.1.c1
 have kA2_u7 := HA_u7.1.c2
 have kA3_u7 := HA_u7.1.c3
 have kZ0_u7 := HZ_u7.1.c0
 have kZ1_u7 := HZ_u7.1.c1
 have kX0_u7 := HX_u7.1.c0
 have kX1_u7 := HX_u7.1.c1
 have kX2_u7 := HX_u7.1.c2
 have kX3_u7 := HX_u7.1.c3
 have kO0_u7 := HO_u7.1.c0
 have kO1_u7 := HO_u7.1.c1
 have kO2_u7 := HO_u7.1.c2
 have kO3_u7 := HO_u7.1.c3
 clear hH kA0z kA1z kA2z kA3z kZ0z kZ1z kX0z kX1z kX2z kX3z kO0z kO1z kO2z kO3z HBz HAz HZz HXz HOz hb
 go_wp2_with fail
 refine hK.out _ _ ?_ (fun hH => ?_)
 ·with_reducible exact ⟨kA0_u7, kA1_u7, kA2_u7, kA3_u7, kZ0_u7, kZ1_u7, kX0_u7, kX1_u7, kX2_u7, kX3_u7, kO0_u7, kO1_u7, kO2_u7, kO3_u7⟩
 clear hK K
 try simp only [pt]
 refine rd [26] ?_
 refine AllReadyH.cons (dropAt rfl) (fun K hK => ?_) AllReadyH.nil
 go_simp
 go_at_call 28
 with_reducible refine (e3.1 _).mono ?_
 rintro e u8 ⟨rfl, hb⟩
 have HB_u8 := Kp.mk (HB_u7.1.step hb)
 have HA_u8 := Kp.mk (HA_u7.1.step hb)
 have HZ_u8 := Kp.mk (HZ_u7.1.step hb)
 have HX_u8 := Kp.mk (HX_u7.1.step hb)
 have HO_u8 := Kp.mk (HO_u7.1.step hb)
 have kA0_u8 := HA_u8.1.c0
 have kA1_u8 := HA_u8.1.c1
 have kA2_u8 := HA_u8.1.c2
 have kA3_u8 := HA_u8.1.c3
 have kZ0_u8 := HZ_u8.1.c0
 have kZ1_u8 := HZ_u8.1.c1
 have kX0_u8 := HX_u8.1.c0
 have kX1_u8 := HX_u8.1.c1
 have kX2_u8 := HX_u8.1.c2
 have kX3_u8 := HX_u8.1.c3
 have kO0_u8 := HO_u8.1.c0
 have kO1_u8 := HO_u8.1.c1
 have kO2_u8 := HO_u8.1.c2
 have kO3_u8 := HO_u8.1.c3
 clear hH kA0_u7 kA1_u7 kA2_u7 kA3_u7 kZ0_u7 kZ1_u7 kX0_u7 kX1_u7 kX2_u7 kX3_u7 kO0_u7 kO1_u7 kO2_u7 kO3_u7 HB_u7 HA_u7 HZ_u7 HX_u7 HO_u7 hb
 go_wp2_with fail
 refine hK.out _ _ ?_ (fun hH => ?_)
 ·with_reducible exact ⟨kA0_u8, kA1_u8, kA2_u8, kA3_u8, kZ0_u8, kZ1_u8, kX0_u8, kX1_u8, kX2_u8, kX3_u8, kO0_u8, kO1_u8, kO2_u8, kO3_u8⟩
 clear hK K
 try simp only [pt]
 refine tk 27 ?_ rfl hH ?_ ?_
 rotate_left
 ·(intro w hSw; (try dsimp only at hSw); go_simp; try with_reducible rfl)
 try simp only [pt]
 refine tk 28 ?_ rfl hH ?_ ?_
 rotate_left
 ·(intro w hSw; (try dsimp only at hSw); go_simp; try with_reducible rfl)
 try simp only [pt]
 refine tk 29 ?_ rfl hH ?_ ?_
 rotate_left
 ·(intro w hSw; (try dsimp only at hSw); go_simp; try with_reducible rfl)
 try simp only [pt]
 refine wpAnyH_done (by kernel_rfl) ?_ _
 have HB := HB_u8
 have HA := HA_u8
 have HZ := HZ_u8
 have HX := HX_u8
 have HO := HO_u8
 obtain ⟨kA0, kA1, kA2, kA3⟩ := HA.1.cs
 have kZ0 := HZ.1.c0
 have kZ1 := HZ.1.c1
 obtain ⟨kX0, kX1, kX2, kX3⟩ := HX.1.cs
 obtain ⟨kO0, kO1, kO2, kO3⟩ := HO.1.cs
 clear kA0 kA1 kA2 kA3 kZ0 kZ1 kX0 kX1 kX2 kX3 kO0 kO1 kO2 kO3
 clear HO HZ
 obtain ⟨kA0, kA1, kA2, kA3⟩ := HA.1.cs
 obtain ⟨kX0, kX1, kX2, kX3⟩ := HX.1.cs
 go_wp2_with fail
 refine (l2.1 _).mono ?_
 rintro e u9 ⟨rfl, hbl⟩
 clear kA0 kA1 kA2 kA3 kX0 kX1 kX2 kX3
 have HB := Kp.mk (HB.1.step hbl)
 have HA := Kp.mk (HA.1.step hbl)
 have HX := Kp.mk (HX.1.step hbl)
 clear hbl
 obtain ⟨kA0, kA1, kA2, kA3⟩ := HA.1.cs
 obtain ⟨kX0, kX1, kX2, kX3⟩ := HX.1.cs
 go_wp2_with fail
 refine (s2.1 _).mono ?_
 rintro e u10 ⟨rfl, hbl⟩
 clear kA0 kA1 kA2 kA3 kX0 kX1 kX2 kX3
 have HB := Kp.mk (HB.1.step hbl)
 have HA := Kp.mk (HA.1.step hbl)
 have HX := Kp.mk (HX.1.step hbl)
 clear hbl
 obtain ⟨kA0, kA1, kA2, kA3⟩ := HA.1.cs
 obtain ⟨kX0, kX1, kX2, kX3⟩ := HX.1.cs
 go_upto_region 11 with fail
 clear kA0 kA1 kA2 kA3 kX0 kX1 kX2 kX3
 have HT := Kp.mk (rg_new s 26 HB.1.below)
 have hbl := (Below.refl u10.heap.size u10).alloc (Nat.le_refl _) (.cells #[.int .i8 s.f, .int .i64 s.d, .int .i8 s.g, .int .i64 s.e] 26)
 have HB := Kp.mk (HB.1.step hbl)
 have HA := Kp.mk (HA.1.step hbl)
 have HX := Kp.mk (HX.1.step hbl)
 clear hbl
 generalize u10.alloc (.cells #[.int .i8 s.f, .int .i64 s.d, .int .i8 s.g, .int .i64 s.e] 26) = u11 at *
 generalize u10.heap.size = b3 at *
 obtain ⟨kA0, kA1, kA2, kA3⟩ := HA.1.cs
 obtain ⟨kX0, kX1, kX2, kX3⟩ := HX.1.cs
 obtain ⟨kT0, kT1, kT2, kT3⟩ := HT.1.cs
 go_wp2_with fail
 refine (g1.1 _).mono ?_
 rintro e u12 ⟨rfl, hbl⟩
 clear kA0 kA1 kA2 kA3 kX0 kX1 kX2 kX3 kT0 kT1 kT2 kT3
 have HB := Kp.mk (HB.1.step hbl)
 have HA := Kp.mk (HA.1.step hbl)
 have HX := Kp.mk (HX.1.step hbl)
 have HT := Kp.mk (HT.1.step hbl)
 clear hbl
 obtain ⟨kA0, kA1, kA2, kA3⟩ := HA.1.cs
 obtain ⟨kX0, kX1, kX2, kX3⟩ := HX.1.cs
 obtain ⟨kT0, kT1, kT2, kT3⟩ := HT.1.cs
 go_wp2_with fail
 refine (rl.1 _ HB.1.below).mono ?_
 rintro e u13 ⟨rfl, hbl⟩
 clear kA0 kA1 kA2 kA3 kX0 kX1 kX2 kX3 kT0 kT1 kT2 kT3
 have HB := Kp.mk (HB.1.step hbl)
 have HA := Kp.mk (HA.1.step hbl)
 have HX := Kp.mk (HX.1.step hbl)
 have HT := Kp.mk (HT.1.step hbl)
 clear hbl
 obtain ⟨kA0, kA1, kA2, kA3⟩ := HA.1.cs
 obtain ⟨kX0, kX1, kX2, kX3⟩ := HX.1.cs
 obtain ⟨kT0, kT1, kT2, kT3⟩ := HT.1.cs
 go_wp2_with fail
 go_ret
 exact ⟨rfl, HB.1.below⟩
set_option maxHeartbeats 16000000 in
theorem lawOne_l_least {I : World → Prop} (C : RunFns I) (r : Rn) (k x y : Int) (w : World) (hI : I w) (hr : r.In) (k0 : -9223372036854775808 ≤ k) (k1 : k ≤ 9223372036854775807) (x0 : -9223372036854775808 ≤ x) (x1 : x ≤ 9223372036854775807) (y0 : -9223372036854775808 ≤ y) (y1 : y ≤ 9223372036854775807) (hz : x ≤ y) (h1 : chkR r = 0) {s : Rn} (hm : MoveR r k s 0) (hk : k = -9223372036854775808) :
 Calls Tryz.prog 4 #[.agg #[.int .i8 r.f, .int .i64 r.d, .int .i8 r.g, .int .i64 r.e], .int .i64 k, .agg #[.int .i64 x, .int .i64 y]] w fun e w' => e = .returned (.bool true) ∧ Below w.heap.size w w' := by
 have HA := Kp.mk (pz_two w r x y).1
 have HZ := Kp.mk (pz_two w r x y).2
 have HB := Kp.mk (bl_of HA.1)
 have HI := Kp.mk (fun (v : World) (h : Below w.heap.size w v) => C.keep hI h)
 clear hI
 have rl := Kp.mk (fun v (hw : Below w.heap.size w v) => C.lives v (HI.1 v hw))
 have e1 := Kp.mk (fun w => refRChk_is h1 w)
 obtain ⟨o, ho⟩ : ∃ o : Rn, (⟨0, x, 0, y⟩ : Rn) = o := ⟨_, rfl⟩
 have e2 : Kp (∀ u, Below w.heap.size w u → Calls Tryz.prog 27 #[.int .i64 x, .int .i64 y] u fun e w' => e = .returned (.tuple #[.agg #[.int .i8 o.f, .int .i64 o.d, .int .i8 o.g, .int .i64 o.e], .int .i64 0]) ∧ Below u.heap.size u w') := Kp.mk (fun u hw => by rw [← ho]; exact C.of_ok u (HI.1 u hw) x0 x1 y0 y1 hz)
 have e4 : Kp (∀ u, Calls Tryz.prog 29 #[.int .i64 x, .int .i64 y] u fun e w' => e = .returned (.agg #[.int .i8 o.f, .int .i64 o.d, .int .i8 o.g, .int .i64 o.e]) ∧ Below u.heap.size u w') := Kp.mk (fun u => by rw [← ho]; exact days_is x y u)
 have e3 := Kp.mk (fun w => gives_ok o w)
 have t1 : decide (y < x) = false := decide_eq_false (by omega)
 have t2 : x ≤ y := by omega
 have oa := (chkR_zero hr).1 h1
 obtain ⟨n, hnn⟩ : ∃ n, lenN r = n := ⟨_, rfl⟩
 obtain ⟨d, hd⟩ : ∃ d, lenC r = d := ⟨_, rfl⟩
 have l1 := Kp.mk (fun u (hw : Below w.heap.size w u) => C.len_ok u (HI.1 u hw) hr h1 hnn hd)
 have l2 := Kp.mk (fun w => refRLen_is oa hnn hd w)
 have s1 := Kp.mk (fun u (hw : Below w.heap.size w u) => C.shift_ok u (HI.1 u hw) hr h1 k0 k1 hm)
 have s2 := Kp.mk (fun w => refShift_is hm hr k0 k1 w)
 have g1 := Kp.mk (fun w => gives_ok s w)
 have t5 : (k == -9223372036854775808) = true := by rw [beq_iff_eq]; exact hk
 clear C hr k0 k1 x0 x1 y0 y1 hz h1 ho oa hnn hd hm hk
 go_enter Tryz.func4, Tryz.ntmps4
 go_upto_region 1 with fail
 generalize (w.alloc (.cells #[.int .i8 r.f, .int .i64 r.d, .int .i8 r.g, .int .i64 r.e] 26)).alloc (.cells #[.int .i64 x, .int .i64 y] 39) = w0 at *
 obtain ⟨kA0, kA1, kA2, kA3⟩ := HA.1.cs
 have kZ0 := HZ.1.c0
 have kZ1 := HZ.1.c1
 go_wp2_with fail
 refine (e1.1 _).mono ?_
 rintro e u1 ⟨rfl, hbl⟩
 clear kA0 kA1 kA2 kA3 kZ0 kZ1
 have HB := Kp.mk (HB.1.step hbl)
 have HA := Kp.mk (HA.1.step hbl)
 have HZ := Kp.mk (HZ.1.step hbl)
 clear hbl
 obtain ⟨kA0, kA1, kA2, kA3⟩ := HA.1.cs
 have kZ0 := HZ.1.c0
 have kZ1 := HZ.1.c1
 go_wp2_with fail
 refine (l1.1 _ HB.1.below).mono ?_
 rintro e u2 ⟨rfl, hbl⟩
 clear kA0 kA1 kA2 kA3 kZ0 kZ1
 have HB := Kp.mk (HB.1.step hbl)
 have HA := Kp.mk (HA.1.step hbl)
 have HZ := Kp.mk (HZ.1.step hbl)
 clear hbl
 obtain ⟨kA0, kA1, kA2, kA3⟩ := HA.1.cs
 have kZ0 := HZ.1.c0
 have kZ1 := HZ.1.c1
 go_wp2_with fail
 refine (s1.1 _ HB.1.below).mono ?_
 rintro e u3 ⟨rfl, hbl⟩
 clear kA0 kA1 kA2 kA3 kZ0 kZ1
 have HB := Kp.mk (HB.1.step hbl)
 have HA := Kp.mk (HA.1.step hbl)
 have HZ := Kp.mk (HZ.1.step hbl)
 clear hbl
 obtain ⟨kA0, kA1, kA2, kA3⟩ := HA.1.cs
 have kZ0 := HZ.1.c0
 have kZ1 := HZ.1.c1
 go_upto_region 4 with fail
 clear kA0 kA1 kA2 kA3 kZ0 kZ1
 have HX := Kp.mk (rg_new s 26 HB.1.below)
 have hbl := (Below.refl u3.heap.size u3).alloc (Nat.le_refl _) (.cells #[.int .i8 s.f, .int .i64 s.d, .int .i8 s.g, .int .i64 s.e] 26)
 have HB := Kp.mk (HB.1.step hbl)
 have HA := Kp.mk (HA.1.step hbl)
 have HZ := Kp.mk (HZ.1.step hbl)
 clear hbl
 generalize u3.alloc (.cells #[.int .i8 s.f, .int .i64 s.d, .int .i8 s.g, .int .i64 s.e] 26) = u4 at *
 generalize u3.heap.size = b1 at *
 obtain ⟨kA0, kA1, kA2, kA3⟩ := HA.1.cs
 have kZ0 := HZ.1.c0
 have kZ1 := HZ.1.c1
 obtain ⟨kX0, kX1, kX2, kX3⟩ := HX.1.cs
 go_wp2_with fail
 refine (e2.1 _ HB.1.below).mono ?_
 rintro e u5 ⟨rfl, hbl⟩
 clear kA0 kA1 kA2 kA3 kZ0 kZ1 kX0 kX1 kX2 kX3
 have HB := Kp.mk (HB.1.step hbl)
 have HA := Kp.mk (HA.1.step hbl)
 have HZ := Kp.mk (HZ.1.step hbl)
 have HX := Kp.mk (HX.1.step hbl)
 clear hbl
 obtain ⟨kA0, kA1, kA2, kA3⟩ := HA.1.cs
 have kZ0 := HZ.1.c0
 have kZ1 := HZ.1.c1
 obtain ⟨kX0, kX1, kX2, kX3⟩ := HX.1.cs
 go_upto_region 5 with fail
 clear kA0 kA1 kA2 kA3 kZ0 kZ1 kX0 kX1 kX2 kX3
 have HO := Kp.mk (rg_new o 26 HB.1.below)
 have hbl := (Below.refl u5.heap.size u5).alloc (Nat.le_refl _) (.cells #[.int .i8 o.f, .int .i64 o.d, .int .i8 o.g, .int .i64 o.e] 26)
 have HB := Kp.mk (HB.1.step hbl)
 have HA := Kp.mk (HA.1.step hbl)
 have HZ := Kp.mk (HZ.1.step hbl)
 have HX := Kp.mk (HX.1.step hbl)
 clear hbl
 generalize u5.alloc (.cells #[.int .i8 o.f, .int .i64 o.d, .int .i8 o.g, .int .i64 o.e] 26) = u6 at *
 generalize u5.heap.size = b2 at *
 obtain ⟨kA0, kA1, kA2, kA3⟩ := HA.1.cs
 have kZ0 := HZ.1.c0
 have kZ1 := HZ.1.c1
 obtain ⟨kX0, kX1, kX2, kX3⟩ := HX.1.cs
 obtain ⟨kO0, kO1, kO2, kO3⟩ := HO.1.cs
 have hbl := (Below.refl u6.heap.size u6).drew
 have HBz := Kp.mk (HB.1.step hbl)
 have HAz := Kp.mk (HA.1.step hbl)
 have HZz := Kp.mk (HZ.1.step hbl)
 have HXz := Kp.mk (HX.1.step hbl)
 have HOz := Kp.mk (HO.1.step hbl)
 have kA0z := HAz.1.c0
 have kA1z := HAz.1.c1
 have kA2z := HAz.1.c2
 have kA3z := HAz.1.c3
 have kZ0z := HZz.1.c0
 have kZ1z := HZz.1.c1
 have kX0z := HXz.1.c0
 have kX1z := HXz.1.c1
 have kX2z := HXz.1.c2
 have kX3z := HXz.1.c3
 have kO0z := HOz.1.c0
 have kO1z := HOz.1.c1
 have kO2z := HOz.1.c2
 have kO3z := HOz.1.c3
 clear hbl
 clear kA0 kA1 kA2 kA3 kZ0 kZ1 kX0 kX1 kX2 kX3 kO0 kO1 kO2 kO3
 refine wp_region_held_drew (S := fun w' => w'.cell? ⟨w.heap.size, 0, none⟩ = some (.int .i8 r.f) ∧ w'.cell? ⟨w.heap.size, 1, none⟩ = some (.int .i64 r.d) ∧ w'.cell? ⟨w.heap.size, 2, none⟩ = some (.int .i8 r.g) ∧ w'.cell? ⟨w.heap.size, 3, none⟩ = some (.int .i64 r.e) ∧ w'.cell? ⟨w.heap.size + 1, 0, none⟩ = some (.int .i64 x) ∧ w'.cell? ⟨w.heap.size + 1, 1, none⟩ = some (.int .i64 y) ∧ w'.cell? ⟨b1, 0, none⟩ = some (.int .i8 s.f) ∧ w'.cell? ⟨b1, 1, none⟩ = some (.int .i64 s.d) ∧ w'.cell? ⟨b1, 2, none⟩ = some (.int .i8 s.g) ∧ w'.cell? ⟨b1, 3, none⟩ = some (.int .i64 s.e) ∧ w'.cell? ⟨b2, 0, none⟩ = some (.int .i8 o.f) ∧ w'.cell? ⟨b2, 1, none⟩ = some (.int .i64 o.d) ∧ w'.cell? ⟨b2, 2, none⟩ = some (.int .i8 o.g) ∧ w'.cell? ⟨b2, 3, none⟩ = some (.int .i64 o.e)) (by kernel_rfl) ?_ (fun hH => ?_)
 ·with_reducible exact ⟨kA0z, kA1z, kA2z, kA3z, kZ0z, kZ1z, kX0z, kX1z, kX2z, kX3z, kO0z, kO1z, kO2z, kO3z⟩
 refine tk 0 ?_ rfl hH ?_ ?_
 rotate_left
 ·(intro w hSw; (try dsimp only at hSw); go_simp; try with_reducible rfl)
 try simp only [pt]
 refine tk 1 ?_ rfl hH ?_ ?_
 rotate_left
 ·(intro w hSw; (try dsimp only at hSw); go_simp; try with_reducible rfl)
 try simp only [pt]
 refine tk 2 ?_ rfl hH ?_ ?_
 rotate_left
 ·(intro w hSw; (try dsimp only at hSw); go_simp; try with_reducible rfl)
 try simp only [pt]
 refine tk 3 ?_ rfl hH ?_ ?_
 rotate_left
 ·(intro w hSw; (try dsimp only at hSw); go_simp; try with_reducible rfl)
 try simp only [pt]
 refine tk 4 ?_ rfl hH ?_ ?_
 rotate_left
 ·(intro w hSw; (try dsimp only at hSw); go_simp; try with_reducible rfl)
 try simp only [pt]
 refine tk 5 ?_ rfl hH ?_ ?_
 rotate_left
 ·(intro w hSw; (try dsimp only at hSw); go_simp; try with_reducible rfl)
 try simp only [pt]
 refine takeOut (i := 6) rfl (by kernel_rfl) (by kernel_rfl) (by kernel_rfl) (fun _ _ _ h => h) (by rfl) hH ?_
 try simp only [pt]
 refine takeOut (i := 7) rfl (by kernel_rfl) (by kernel_rfl) (by kernel_rfl) (fun _ _ _ h => h) (by rfl) hH ?_
 try simp only [pt]
 refine takeOut (i := 8) rfl (by kernel_rfl) (by kernel_rfl) (by kernel_rfl) (fun _ _ _ h => h) (by rfl) hH ?_
 try simp only [pt]
 refine takeOut (i := 9) rfl (by kernel_rfl) (by kernel_rfl) (by kernel_rfl) (fun _ _ _ h => h) (by rfl) hH ?_
 try simp only [pt]
 refine takeOut (i := 10) rfl (by kernel_rfl) (by kernel_rfl) (by kernel_rfl) (fun _ _ _ h => h) (by rfl) hH ?_
 try simp only [pt]
 refine tk 11 ?_ rfl hH ?_ ?_
 rotate_left
 ·(intro w hSw; (try dsimp only at hSw); go_simp; try with_reducible rfl)
 try simp only [pt]
 refine tk 12 ?_ rfl hH ?_ ?_
 rotate_left
 ·(intro w hSw; (try dsimp only at hSw); go_simp; try with_reducible rfl)
 try simp only [pt]
 refine tk 13 ?_ rfl hH ?_ ?_
 rotate_left
 ·(intro w hSw; (try dsimp only at hSw); go_simp; try with_reducible rfl)
 try simp only [pt]
 refine tk 14 ?_ rfl hH ?_ ?_
 rotate_left
 ·(intro w hSw; (try dsimp only at hSw); go_simp; try with_reducible rfl)
 try simp only [pt]
 refine tk 15 ?_ rfl hH ?_ ?_
 rotate_left
 ·(intro w hSw; (try dsimp only at hSw); go_simp; try with_reducible rfl)
 try simp only [pt]
 refine tk 16 ?_ rfl hH ?_ ?_
 rotate_left
 ·(intro w hSw; (try dsimp only at hSw); go_simp; try with_reducible rfl)
 try simp only [pt]
 refine tk 17 ?_ rfl hH ?_ ?_
 rotate_left
 ·(intro w hSw; (try dsimp only at hSw); go_simp; try with_reducible rfl)
 try simp only [pt]
 refine tk 18 ?_ rfl hH ?_ ?_
 rotate_left
 ·(intro w hSw; (try dsimp only at hSw); go_simp; try with_reducible rfl)
 try simp only [pt]
 refine tk 19 ?_ rfl hH ?_ ?_
 rotate_left
 ·(intro w hSw; (try dsimp only at hSw); go_simp; try with_reducible rfl)
 try simp only [pt]
 refine tk 20 ?_ rfl hH ?_ ?_
 rotate_left
 ·(intro w hSw; (try dsimp only at hSw); go_simp; try with_reducible rfl)
 try simp only [pt]
 refine tk 21 ?_ rfl hH ?_ ?_
 rotate_left
 ·(intro w hSw; (try dsimp only at hSw); go_simp; try with_reducible rfl)
 try simp only [pt]
 refine tk 22 ?_ rfl hH ?_ ?_
 rotate_left
 ·(intro w hSw; (try dsimp only at hSw); go_simp; try with_reducible rfl)
 try simp only [pt]
 refine tk 23 ?_ rfl hH ?_ ?_
 rotate_left
 ·(intro w hSw; (try dsimp only at hSw); go_simp; try with_reducible rfl)
 try simp only [pt]
 refine tk 24 ?_ rfl hH ?_ ?_
 rotate_left
 ·(intro w hSw; (try dsimp only at hSw); go_simp; try with_reducible rfl)
 try simp only [pt]
 refine rd [25] ?_
 refine AllReadyH.cons (dropAt rfl) (fun K hK => ?_) AllReadyH.nil
 go_simp
 go_at_call 29
 with_reducible refine (e4.1 _).mono ?_
 rintro e u7 ⟨rfl, hb⟩
 have HB_u7 := Kp.mk (HBz.1.step hb)
 have HA_u7 := Kp.mk (HAz.1.step hb)
 have HZ_u7 := Kp.mk (HZz.1.step hb)
 have HX_u7 := Kp.mk (HXz.1.step hb)
 have HO_u7 := Kp.mk (HOz.1.step hb)
 have kA0_u7 := HA_u7.1.c0
 have kA1_u7 := HA_u7.1.c1
 have kA2_u7 := HA_u7.1.c2
 have kA3_u7 := HA_u7.1.c3
 have kZ0_u7 := HZ_u7.1.c0
 have kZ1_u7 := HZ_u7.1.c1
 have kX0_u7 := HX_u7.1.c0
 have kX1_u7 := HX_u7.1.c1
 have kX2_u7 := HX_u7.1.c2
 have kX3_u7 := HX_u7.1.c3
 have kO0_u7 := HO_u7.1.c0
 have kO1_u7 := HO_u7.1.c1
 have kO2_u7 := HO_u7.1.c2
 have kO3_u7 := HO_u7.1.c3
 clear hH kA0z kA1z kA2z kA3z kZ0z kZ1z kX0z kX1z kX2z kX3z kO0z kO1z kO2z kO3z HBz HAz HZz HXz HOz hb
 go_wp2_with fail
 refine hK.out _ _ ?_ (fun hH => ?_)
 ·with_reducible exact ⟨kA0_u7, kA1_u7, kA2_u7, kA3_u7, kZ0_u7, kZ1_u7, kX0_u7, kX1_u7, kX2_u7, kX3_u7, kO0_u7, kO1_u7, kO2_u7, kO3_u7⟩
 clear hK K
 try simp only [pt]
 refine rd [26] ?_
 refine AllReadyH.cons (dropAt rfl) (fun K hK => ?_) AllReadyH.nil
 go_simp
 go_at_call 28
 with_reducible refine (e3.1 _).mono ?_
 rintro e u8 ⟨rfl, hb⟩
 have HB_u8 := Kp.mk (HB_u7.1.step hb)
 have HA_u8 := Kp.mk (HA_u7.1.step hb)
 have HZ_u8 := Kp.mk (HZ_u7.1.step hb)
 have HX_u8 := Kp.mk (HX_u7.1.step hb)
 have HO_u8 := Kp.mk (HO_u7.1.step hb)
 have kA0_u8 := HA_u8.1.c0
 have kA1_u8 := HA_u8.1.c1
 have kA2_u8 := HA_u8.1.c2
 have kA3_u8 := HA_u8.1.c3
 have kZ0_u8 := HZ_u8.1.c0
 have kZ1_u8 := HZ_u8.1.c1
 have kX0_u8 := HX_u8.1.c0
 have kX1_u8 := HX_u8.1.c1
 have kX2_u8 := HX_u8.1.c2
 have kX3_u8 := HX_u8.1.c3
 have kO0_u8 := HO_u8.1.c0
 have kO1_u8 := HO_u8.1.c1
 have kO2_u8 := HO_u8.1.c2
 have kO3_u8 := HO_u8.1.c3
 clear hH kA0_u7 kA1_u7 kA2_u7 kA3_u7 kZ0_u7 kZ1_u7 kX0_u7 kX1_u7 kX2_u7 kX3_u7 kO0_u7 kO1_u7 kO2_u7 kO3_u7 HB_u7 HA_u7 HZ_u7 HX_u7 HO_u7 hb
 go_wp2_with fail
 refine hK.out _ _ ?_ (fun hH => ?_)
 ·with_reducible exact ⟨kA0_u8, kA1_u8, kA2_u8, kA3_u8, kZ0_u8, kZ1_u8, kX0_u8, kX1_u8, kX2_u8, kX3_u8, kO0_u8, kO1_u8, kO2_u8, kO3_u8⟩
 clear hK K
 try simp only [pt]
 refine tk 27 ?_ rfl hH ?_ ?_
 rotate_left
 ·(intro w hSw; (try dsimp only at hSw); go_simp; try with_reducible rfl)
 try simp only [pt]
 refine tk 28 ?_ rfl hH ?_ ?_
 rotate_left
 ·(intro w hSw; (try dsimp only at hSw); go_simp; try with_reducible rfl)
 try simp only [pt]
 refine tk 29 ?_ rfl hH ?_ ?_
 rotate_left
 ·(intro w hSw; (try dsimp only at hSw); go_simp; try with_reducible rfl)
 try simp only [pt]
 refine wpAnyH_done (by kernel_rfl) ?_ _
 have HB := HB_u8
 have HA := HA_u8
 have HZ := HZ_u8
 have HX := HX_u8
 have HO := HO_u8
 obtain ⟨kA0, kA1, kA2, kA3⟩ := HA.1.cs
 have kZ0 := HZ.1.c0
 have kZ1 := HZ.1.c1
 obtain ⟨kX0, kX1, kX2, kX3⟩ := HX.1.cs
 obtain ⟨kO0, kO1, kO2, kO3⟩ := HO.1.cs
 clear kA0 kA1 kA2 kA3 kZ0 kZ1 kX0 kX1 kX2 kX3 kO0 kO1 kO2 kO3
 clear HO HZ
 obtain ⟨kA0, kA1, kA2, kA3⟩ := HA.1.cs
 obtain ⟨kX0, kX1, kX2, kX3⟩ := HX.1.cs
 go_wp2_with fail
 refine (l2.1 _).mono ?_
 rintro e u9 ⟨rfl, hbl⟩
 clear kA0 kA1 kA2 kA3 kX0 kX1 kX2 kX3
 have HB := Kp.mk (HB.1.step hbl)
 have HA := Kp.mk (HA.1.step hbl)
 have HX := Kp.mk (HX.1.step hbl)
 clear hbl
 obtain ⟨kA0, kA1, kA2, kA3⟩ := HA.1.cs
 obtain ⟨kX0, kX1, kX2, kX3⟩ := HX.1.cs
 go_wp2_with fail
 refine (s2.1 _).mono ?_
 rintro e u10 ⟨rfl, hbl⟩
 clear kA0 kA1 kA2 kA3 kX0 kX1 kX2 kX3
 have HB := Kp.mk (HB.1.step hbl)
 have HA := Kp.mk (HA.1.step hbl)
 have HX := Kp.mk (HX.1.step hbl)
 clear hbl
 obtain ⟨kA0, kA1, kA2, kA3⟩ := HA.1.cs
 obtain ⟨kX0, kX1, kX2, kX3⟩ := HX.1.cs
 go_upto_region 11 with fail
 clear kA0 kA1 kA2 kA3 kX0 kX1 kX2 kX3
 have HT := Kp.mk (rg_new s 26 HB.1.below)
 have hbl := (Below.refl u10.heap.size u10).alloc (Nat.le_refl _) (.cells #[.int .i8 s.f, .int .i64 s.d, .int .i8 s.g, .int .i64 s.e] 26)
 have HB := Kp.mk (HB.1.step hbl)
 have HA := Kp.mk (HA.1.step hbl)
 have HX := Kp.mk (HX.1.step hbl)
 clear hbl
 generalize u10.alloc (.cells #[.int .i8 s.f, .int .i64 s.d, .int .i8 s.g, .int .i64 s.e] 26) = u11 at *
 generalize u10.heap.size = b3 at *
 obtain ⟨kA0, kA1, kA2, kA3⟩ := HA.1.cs
 obtain ⟨kX0, kX1, kX2, kX3⟩ := HX.1.cs
 obtain ⟨kT0, kT1, kT2, kT3⟩ := HT.1.cs
 go_wp2_with fail
 refine (g1.1 _).mono ?_
 rintro e u12 ⟨rfl, hbl⟩
 clear kA0 kA1 kA2 kA3 kX0 kX1 kX2 kX3 kT0 kT1 kT2 kT3
 have HB := Kp.mk (HB.1.step hbl)
 have HA := Kp.mk (HA.1.step hbl)
 have HX := Kp.mk (HX.1.step hbl)
 have HT := Kp.mk (HT.1.step hbl)
 clear hbl
 obtain ⟨kA0, kA1, kA2, kA3⟩ := HA.1.cs
 obtain ⟨kX0, kX1, kX2, kX3⟩ := HX.1.cs
 obtain ⟨kT0, kT1, kT2, kT3⟩ := HT.1.cs
 go_wp2_with fail
 refine (rl.1 _ HB.1.below).mono ?_
 rintro e u13 ⟨rfl, hbl⟩
 clear kA0 kA1 kA2 kA3 kX0 kX1 kX2 kX3 kT0 kT1 kT2 kT3
 have HB := Kp.mk (HB.1.step hbl)
 have HA := Kp.mk (HA.1.step hbl)
 have HX := Kp.mk (HX.1.step hbl)
 have HT := Kp.mk (HT.1.step hbl)
 clear hbl
 obtain ⟨kA0, kA1, kA2, kA3⟩ := HA.1.cs
 obtain ⟨kX0, kX1, kX2, kX3⟩ := HX.1.cs
 obtain ⟨kT0, kT1, kT2, kT3⟩ := HT.1.cs
 go_wp2_with fail
 go_ret
 exact ⟨rfl, HB.1.below⟩
set_option maxHeartbeats 16000000 in
theorem lawOne_l_full {I : World → Prop} (C : RunFns I) (r : Rn) (k x y : Int) (w : World) (hI : I w) (hr : r.In) (k0 : -9223372036854775808 ≤ k) (k1 : k ≤ 9223372036854775807) (x0 : -9223372036854775808 ≤ x) (x1 : x ≤ 9223372036854775807) (y0 : -9223372036854775808 ≤ y) (y1 : y ≤ 9223372036854775807) (hz : x ≤ y) (h1 : chkR r = 0) {s : Rn} (hm : MoveR r k s 0) (hk : ¬ k = -9223372036854775808) :
 Calls Tryz.prog 4 #[.agg #[.int .i8 r.f, .int .i64 r.d, .int .i8 r.g, .int .i64 r.e], .int .i64 k, .agg #[.int .i64 x, .int .i64 y]] w fun e w' => e = .returned (.bool true) ∧ Below w.heap.size w w' := by
 have HA := Kp.mk (pz_two w r x y).1
 have HZ := Kp.mk (pz_two w r x y).2
 have HB := Kp.mk (bl_of HA.1)
 have HI := Kp.mk (fun (v : World) (h : Below w.heap.size w v) => C.keep hI h)
 clear hI
 have rl := Kp.mk (fun v (hw : Below w.heap.size w v) => C.lives v (HI.1 v hw))
 have e1 := Kp.mk (fun w => refRChk_is h1 w)
 obtain ⟨o, ho⟩ : ∃ o : Rn, (⟨0, x, 0, y⟩ : Rn) = o := ⟨_, rfl⟩
 have e2 : Kp (∀ u, Below w.heap.size w u → Calls Tryz.prog 27 #[.int .i64 x, .int .i64 y] u fun e w' => e = .returned (.tuple #[.agg #[.int .i8 o.f, .int .i64 o.d, .int .i8 o.g, .int .i64 o.e], .int .i64 0]) ∧ Below u.heap.size u w') := Kp.mk (fun u hw => by rw [← ho]; exact C.of_ok u (HI.1 u hw) x0 x1 y0 y1 hz)
 have e4 : Kp (∀ u, Calls Tryz.prog 29 #[.int .i64 x, .int .i64 y] u fun e w' => e = .returned (.agg #[.int .i8 o.f, .int .i64 o.d, .int .i8 o.g, .int .i64 o.e]) ∧ Below u.heap.size u w') := Kp.mk (fun u => by rw [← ho]; exact days_is x y u)
 have e3 := Kp.mk (fun w => gives_ok o w)
 have t1 : decide (y < x) = false := decide_eq_false (by omega)
 have t2 : x ≤ y := by omega
 have oa := (chkR_zero hr).1 h1
 obtain ⟨n, hnn⟩ : ∃ n, lenN r = n := ⟨_, rfl⟩
 obtain ⟨d, hd⟩ : ∃ d, lenC r = d := ⟨_, rfl⟩
 have l1 := Kp.mk (fun u (hw : Below w.heap.size w u) => C.len_ok u (HI.1 u hw) hr h1 hnn hd)
 have l2 := Kp.mk (fun w => refRLen_is oa hnn hd w)
 have s1 := Kp.mk (fun u (hw : Below w.heap.size w u) => C.shift_ok u (HI.1 u hw) hr h1 k0 k1 hm)
 have s2 := Kp.mk (fun w => refShift_is hm hr k0 k1 w)
 have g1 := Kp.mk (fun w => gives_ok s w)
 have t5 : (k == -9223372036854775808) = false := by rw [beq_eq_false_iff_ne]; exact hk
 have hbk := moveR_back hm oa
 obtain ⟨nk, hnk⟩ : ∃ n, -k = n := ⟨_, rfl⟩
 have wk : IntKind.i64.wrap (-k) = nk := by rw [hnk]; exact IntWalk.i64_in _ (by omega)
 have s3 := Kp.mk (fun u (hw : Below w.heap.size w u) => C.shift_ok (k := nk) u (HI.1 u hw) hbk.1.toIn ((chkR_zero hbk.1.toIn).2 hbk.1) (by omega) (by omega) (by rw [← hnk]; exact hbk.2))
 have g2 := Kp.mk (fun w => gives_ok r w)
 clear C hr k0 k1 x0 x1 y0 y1 hz h1 ho oa hnn hd hm hk hbk hnk
 go_enter Tryz.func4, Tryz.ntmps4
 go_upto_region 1 with fail
 generalize (w.alloc (.cells #[.int .i8 r.f, .int .i64 r.d, .int .i8 r.g, .int .i64 r.e] 26)).alloc (.cells #[.int .i64 x, .int .i64 y] 39) = w0 at *
 obtain ⟨kA0, kA1, kA2, kA3⟩ := HA.1.cs
 have kZ0 := HZ.1.c0
 have kZ1 := HZ.1.c1
 go_wp2_with fail
 refine (e1.1 _).mono ?_
 rintro e u1 ⟨rfl, hbl⟩
 clear kA0 kA1 kA2 kA3 kZ0 kZ1
 have HB := Kp.mk (HB.1.step hbl)
 have HA := Kp.mk (HA.1.step hbl)
 have HZ := Kp.mk (HZ.1.step hbl)
 clear hbl
 obtain ⟨kA0, kA1, kA2, kA3⟩ := HA.1.cs
 have kZ0 := HZ.1.c0
 have kZ1 := HZ.1.c1
 go_wp2_with fail
 refine (l1.1 _ HB.1.below).mono ?_
 rintro e u2 ⟨rfl, hbl⟩
 clear kA0 kA1 kA2 kA3 kZ0 kZ1
 have HB := Kp.mk (HB.1.step hbl)
 have HA := Kp.mk (HA.1.step hbl)
 have HZ := Kp.mk (HZ.1.step hbl)
 clear hbl
 obtain ⟨kA0, kA1, kA2, kA3⟩ := HA.1.cs
 have kZ0 := HZ.1.c0
 have kZ1 := HZ.1.c1
 go_wp2_with fail
 refine (s1.1 _ HB.1.below).mono ?_
 rintro e u3 ⟨rfl, hbl⟩
 clear kA0 kA1 kA2 kA3 kZ0 kZ1
 have HB := Kp.mk (HB.1.step hbl)
 have HA := Kp.mk (HA.1.step hbl)
 have HZ := Kp.mk (HZ.1.step hbl)
 clear hbl
 obtain ⟨kA0, kA1, kA2, kA3⟩ := HA.1.cs
 have kZ0 := HZ.1.c0
 have kZ1 := HZ.1.c1
 go_upto_region 4 with fail
 clear kA0 kA1 kA2 kA3 kZ0 kZ1
 have HX := Kp.mk (rg_new s 26 HB.1.below)
 have hbl := (Below.refl u3.heap.size u3).alloc (Nat.le_refl _) (.cells #[.int .i8 s.f, .int .i64 s.d, .int .i8 s.g, .int .i64 s.e] 26)
 have HB := Kp.mk (HB.1.step hbl)
 have HA := Kp.mk (HA.1.step hbl)
 have HZ := Kp.mk (HZ.1.step hbl)
 clear hbl
 generalize u3.alloc (.cells #[.int .i8 s.f, .int .i64 s.d, .int .i8 s.g, .int .i64 s.e] 26) = u4 at *
 generalize u3.heap.size = b1 at *
 obtain ⟨kA0, kA1, kA2, kA3⟩ := HA.1.cs
 have kZ0 := HZ.1.c0
 have kZ1 := HZ.1.c1
 obtain ⟨kX0, kX1, kX2, kX3⟩ := HX.1.cs
 go_wp2_with fail
 refine (e2.1 _ HB.1.below).mono ?_
 rintro e u5 ⟨rfl, hbl⟩
 clear kA0 kA1 kA2 kA3 kZ0 kZ1 kX0 kX1 kX2 kX3
 have HB := Kp.mk (HB.1.step hbl)
 have HA := Kp.mk (HA.1.step hbl)
 have HZ := Kp.mk (HZ.1.step hbl)
 have HX := Kp.mk (HX.1.step hbl)
 clear hbl
 obtain ⟨kA0, kA1, kA2, kA3⟩ := HA.1.cs
 have kZ0 := HZ.1.c0
 have kZ1 := HZ.1.c1
 obtain ⟨kX0, kX1, kX2, kX3⟩ := HX.1.cs
 go_upto_region 5 with fail
 clear kA0 kA1 kA2 kA3 kZ0 kZ1 kX0 kX1 kX2 kX3
 have HO := Kp.mk (rg_new o 26 HB.1.below)
 have hbl := (Below.refl u5.heap.size u5).alloc (Nat.le_refl _) (.cells #[.int .i8 o.f, .int .i64 o.d, .int .i8 o.g, .int .i64 o.e] 26)
 have HB := Kp.mk (HB.1.step hbl)
 have HA := Kp.mk (HA.1.step hbl)
 have HZ := Kp.mk (HZ.1.step hbl)
 have HX := Kp.mk (HX.1.step hbl)
 clear hbl
 generalize u5.alloc (.cells #[.int .i8 o.f, .int .i64 o.d, .int .i8 o.g, .int .i64 o.e] 26) = u6 at *
 generalize u5.heap.size = b2 at *
 obtain ⟨kA0, kA1, kA2, kA3⟩ := HA.1.cs
 have kZ0 := HZ.1.c0
 have kZ1 := HZ.1.c1
 obtain ⟨kX0, kX1, kX2, kX3⟩ := HX.1.cs
 obtain ⟨kO0, kO1, kO2, kO3⟩ := HO.1.cs
 have hbl := (Below.refl u6.heap.size u6).drew
 have HBz := Kp.mk (HB.1.step hbl)
 have HAz := Kp.mk (HA.1.step hbl)
 have HZz := Kp.mk (HZ.1.step hbl)
 have HXz := Kp.mk (HX.1.step hbl)
 have HOz := Kp.mk (HO.1.step hbl)
 have kA0z := HAz.1.c0
 have kA1z := HAz.1.c1
 have kA2z := HAz.1.c2
 have kA3z := HAz.1.c3
 have kZ0z := HZz.1.c0
 have kZ1z := HZz.1.c1
 have kX0z := HXz.1.c0
 have kX1z := HXz.1.c1
 have kX2z := HXz.1.c2
 have kX3z := HXz.1.c3
 have kO0z := HOz.1.c0
 have kO1z := HOz.1.c1
 have kO2z := HOz.1.c2
 have kO3z := HOz.1.c3
 clear hbl
 clear kA0 kA1 kA2 kA3 kZ0 kZ1 kX0 kX1 kX2 kX3 kO0 kO1 kO2 kO3
 refine wp_region_held_drew (S := fun w' => w'.cell? ⟨w.heap.size, 0, none⟩ = some (.int .i8 r.f) ∧ w'.cell? ⟨w.heap.size, 1, none⟩ = some (.int .i64 r.d) ∧ w'.cell? ⟨w.heap.size, 2, none⟩ = some (.int .i8 r.g) ∧ w'.cell? ⟨w.heap.size, 3, none⟩ = some (.int .i64 r.e) ∧ w'.cell? ⟨w.heap.size + 1, 0, none⟩ = some (.int .i64 x) ∧ w'.cell? ⟨w.heap.size + 1, 1, none⟩ = some (.int .i64 y) ∧ w'.cell? ⟨b1, 0, none⟩ = some (.int .i8 s.f) ∧ w'.cell? ⟨b1, 1, none⟩ = some (.int .i64 s.d) ∧ w'.cell? ⟨b1, 2, none⟩ = some (.int .i8 s.g) ∧ w'.cell? ⟨b1, 3, none⟩ = some (.int .i64 s.e) ∧ w'.cell? ⟨b2, 0, none⟩ = some (.int .i8 o.f) ∧ w'.cell? ⟨b2, 1, none⟩ = some (.int .i64 o.d) ∧ w'.cell? ⟨b2, 2, none⟩ = some (.int .i8 o.g) ∧ w'.cell? ⟨b2, 3, none⟩ = some (.int .i64 o.e)) (by kernel_rfl) ?_ (fun hH => ?_)
 ·with_reducible exact ⟨kA0z, kA1z, kA2z, kA3z, kZ0z, kZ1z, kX0z, kX1z, kX2z, kX3z, kO0z, kO1z, kO2z, kO3z⟩
 refine tk 0 ?_ rfl hH ?_ ?_
 rotate_left
 ·(intro w hSw; (try dsimp only at hSw); go_simp; try with_reducible rfl)
 try simp only [pt]
 refine tk 1 ?_ rfl hH ?_ ?_
 rotate_left
 ·(intro w hSw; (try dsimp only at hSw); go_simp; try with_reducible rfl)
 try simp only [pt]
 refine tk 2 ?_ rfl hH ?_ ?_
 rotate_left
 ·(intro w hSw; (try dsimp only at hSw); go_simp; try with_reducible rfl)
 try simp only [pt]
 refine tk 3 ?_ rfl hH ?_ ?_
 rotate_left
 ·(intro w hSw; (try dsimp only at hSw); go_simp; try with_reducible rfl)
 try simp only [pt]
 refine tk 4 ?_ rfl hH ?_ ?_
 rotate_left
 ·(intro w hSw; (try dsimp only at hSw); go_simp; try with_reducible rfl)
 try simp only [pt]
 refine tk 5 ?_ rfl hH ?_ ?_
 rotate_left
 ·(intro w hSw; (try dsimp only at hSw); go_simp; try with_reducible rfl)
 try simp only [pt]
 refine takeOut (i := 6) rfl (by kernel_rfl) (by kernel_rfl) (by kernel_rfl) (fun _ _ _ h => h) (by rfl) hH ?_
 try simp only [pt]
 refine takeOut (i := 7) rfl (by kernel_rfl) (by kernel_rfl) (by kernel_rfl) (fun _ _ _ h => h) (by rfl) hH ?_
 try simp only [pt]
 refine takeOut (i := 8) rfl (by kernel_rfl) (by kernel_rfl) (by kernel_rfl) (fun _ _ _ h => h) (by rfl) hH ?_
 try simp only [pt]
 refine takeOut (i := 9) rfl (by kernel_rfl) (by kernel_rfl) (by kernel_rfl) (fun _ _ _ h => h) (by rfl) hH ?_
 try simp only [pt]
 refine takeOut (i := 10) rfl (by kernel_rfl) (by kernel_rfl) (by kernel_rfl) (fun _ _ _ h => h) (by rfl) hH ?_
 try simp only [pt]
 refine tk 11 ?_ rfl hH ?_ ?_
 rotate_left
 ·(intro w hSw; (try dsimp only at hSw); go_simp; try with_reducible rfl)
 try simp only [pt]
 refine tk 12 ?_ rfl hH ?_ ?_
 rotate_left
 ·(intro w hSw; (try dsimp only at hSw); go_simp; try with_reducible rfl)
 try simp only [pt]
 refine tk 13 ?_ rfl hH ?_ ?_
 rotate_left
 ·(intro w hSw; (try dsimp only at hSw); go_simp; try with_reducible rfl)
 try simp only [pt]
 refine tk 14 ?_ rfl hH ?_ ?_
 rotate_left
 ·(intro w hSw; (try dsimp only at hSw); go_simp; try with_reducible rfl)
 try simp only [pt]
 refine tk 15 ?_ rfl hH ?_ ?_
 rotate_left
 ·(intro w hSw; (try dsimp only at hSw); go_simp; try with_reducible rfl)
 try simp only [pt]
 refine tk 16 ?_ rfl hH ?_ ?_
 rotate_left
 ·(intro w hSw; (try dsimp only at hSw); go_simp; try with_reducible rfl)
 try simp only [pt]
 refine tk 17 ?_ rfl hH ?_ ?_
 rotate_left
 ·(intro w hSw; (try dsimp only at hSw); go_simp; try with_reducible rfl)
 try simp only [pt]
 refine tk 18 ?_ rfl hH ?_ ?_
 rotate_left
 ·(intro w hSw; (try dsimp only at hSw); go_simp; try with_reducible rfl)
 try simp only [pt]
 refine tk 19 ?_ rfl hH ?_ ?_
 rotate_left
 ·(intro w hSw; (try dsimp only at hSw); go_simp; try with_reducible rfl)
 try simp only [pt]
 refine tk 20 ?_ rfl hH ?_ ?_
 rotate_left
 ·(intro w hSw; (try dsimp only at hSw); go_simp; try with_reducible rfl)
 try simp only [pt]
 refine tk 21 ?_ rfl hH ?_ ?_
 rotate_left
 ·(intro w hSw; (try dsimp only at hSw); go_simp; try with_reducible rfl)
 try simp only [pt]
 refine tk 22 ?_ rfl hH ?_ ?_
 rotate_left
 ·(intro w hSw; (try dsimp only at hSw); go_simp; try with_reducible rfl)
 try simp only [pt]
 refine tk 23 ?_ rfl hH ?_ ?_
 rotate_left
 ·(intro w hSw; (try dsimp only at hSw); go_simp; try with_reducible rfl)
 try simp only [pt]
 refine tk 24 ?_ rfl hH ?_ ?_
 rotate_left
 ·(intro w hSw; (try dsimp only at hSw); go_simp; try with_reducible rfl)
 try simp only [pt]
 refine rd [25] ?_
 refine AllReadyH.cons (dropAt rfl) (fun K hK => ?_) AllReadyH.nil
 go_simp
 go_at_call 29
 with_reducible refine (e4.1 _).mono ?_
 rintro e u7 ⟨rfl, hb⟩
 have HB_u7 := Kp.mk (HBz.1.step hb)
 have HA_u7 := Kp.mk (HAz.1.step hb)
 have HZ_u7 := Kp.mk (HZz.1.step hb)
 have HX_u7 := Kp.mk (HXz.1.step hb)
 have HO_u7 := Kp.mk (HOz.1.step hb)
 have kA0_u7 := HA_u7.1.c0
 have kA1_u7 := HA_u7.1.c1
 have kA2_u7 := HA_u7.1.c2
 have kA3_u7 := HA_u7.1.c3
 have kZ0_u7 := HZ_u7.1.c0
 have kZ1_u7 := HZ_u7.1.c1
 have kX0_u7 := HX_u7.1.c0
 have kX1_u7 := HX_u7.1.c1
 have kX2_u7 := HX_u7.1.c2
 have kX3_u7 := HX_u7.1.c3
 have kO0_u7 := HO_u7.1.c0
 have kO1_u7 := HO_u7.1.c1
 have kO2_u7 := HO_u7.1.c2
 have kO3_u7 := HO_u7.1.c3
 clear hH kA0z kA1z kA2z kA3z kZ0z kZ1z kX0z kX1z kX2z kX3z kO0z kO1z kO2z kO3z HBz HAz HZz HXz HOz hb
 go_wp2_with fail
 refine hK.out _ _ ?_ (fun hH => ?_)
 ·with_reducible exact ⟨kA0_u7, kA1_u7, kA2_u7, kA3_u7, kZ0_u7, kZ1_u7, kX0_u7, kX1_u7, kX2_u7, kX3_u7, kO0_u7, kO1_u7, kO2_u7, kO3_u7⟩
 clear hK K
 try simp only [pt]
 refine rd [26] ?_
 refine AllReadyH.cons (dropAt rfl) (fun K hK => ?_) AllReadyH.nil
 go_simp
 go_at_call 28
 with_reducible refine (e3.1 _).mono ?_
 rintro e u8 ⟨rfl, hb⟩
 have HB_u8 := Kp.mk (HB_u7.1.step hb)
 have HA_u8 := Kp.mk (HA_u7.1.step hb)
 have HZ_u8 := Kp.mk (HZ_u7.1.step hb)
 have HX_u8 := Kp.mk (HX_u7.1.step hb)
 have HO_u8 := Kp.mk (HO_u7.1.step hb)
 have kA0_u8 := HA_u8.1.c0
 have kA1_u8 := HA_u8.1.c1
 have kA2_u8 := HA_u8.1.c2
 have kA3_u8 := HA_u8.1.c3
 have kZ0_u8 := HZ_u8.1.c0
 have kZ1_u8 := HZ_u8.1.c1
 have kX0_u8 := HX_u8.1.c0
 have kX1_u8 := HX_u8.1.c1
 have kX2_u8 := HX_u8.1.c2
 have kX3_u8 := HX_u8.1.c3
 have kO0_u8 := HO_u8.1.c0
 have kO1_u8 := HO_u8.1.c1
 have kO2_u8 := HO_u8.1.c2
 have kO3_u8 := HO_u8.1.c3
 clear hH kA0_u7 kA1_u7 kA2_u7 kA3_u7 kZ0_u7 kZ1_u7 kX0_u7 kX1_u7 kX2_u7 kX3_u7 kO0_u7 kO1_u7 kO2_u7 kO3_u7 HB_u7 HA_u7 HZ_u7 HX_u7 HO_u7 hb
 go_wp2_with fail
 refine hK.out _ _ ?_ (fun hH => ?_)
 ·with_reducible exact ⟨kA0_u8, kA1_u8, kA2_u8, kA3_u8, kZ0_u8, kZ1_u8, kX0_u8, kX1_u8, kX2_u8, kX3_u8, kO0_u8, kO1_u8, kO2_u8, kO3_u8⟩
 clear hK K
 try simp only [pt]
 refine tk 27 ?_ rfl hH ?_ ?_
 rotate_left
 ·(intro w hSw; (try dsimp only at hSw); go_simp; try with_reducible rfl)
 try simp only [pt]
 refine tk 28 ?_ rfl hH ?_ ?_
 rotate_left
 ·(intro w hSw; (try dsimp only at hSw); go_simp; try with_reducible rfl)
 try simp only [pt]
 refine tk 29 ?_ rfl hH ?_ ?_
 rotate_left
 ·(intro w hSw; (try dsimp only at hSw); go_simp; try with_reducible rfl)
 try simp only [pt]
 refine wpAnyH_done (by kernel_rfl) ?_ _
 have HB := HB_u8
 have HA := HA_u8
 have HZ := HZ_u8
 have HX := HX_u8
 have HO := HO_u8
 obtain ⟨kA0, kA1, kA2, kA3⟩ := HA.1.cs
 have kZ0 := HZ.1.c0
 have kZ1 := HZ.1.c1
 obtain ⟨kX0, kX1, kX2, kX3⟩ := HX.1.cs
 obtain ⟨kO0, kO1, kO2, kO3⟩ := HO.1.cs
 clear kA0 kA1 kA2 kA3 kZ0 kZ1 kX0 kX1 kX2 kX3 kO0 kO1 kO2 kO3
 clear HO HZ
 obtain ⟨kA0, kA1, kA2, kA3⟩ := HA.1.cs
 obtain ⟨kX0, kX1, kX2, kX3⟩ := HX.1.cs
 go_wp2_with fail
 refine (l2.1 _).mono ?_
 rintro e u9 ⟨rfl, hbl⟩
 clear kA0 kA1 kA2 kA3 kX0 kX1 kX2 kX3
 have HB := Kp.mk (HB.1.step hbl)
 have HA := Kp.mk (HA.1.step hbl)
 have HX := Kp.mk (HX.1.step hbl)
 clear hbl
 obtain ⟨kA0, kA1, kA2, kA3⟩ := HA.1.cs
 obtain ⟨kX0, kX1, kX2, kX3⟩ := HX.1.cs
 go_wp2_with fail
 refine (s2.1 _).mono ?_
 rintro e u10 ⟨rfl, hbl⟩
 clear kA0 kA1 kA2 kA3 kX0 kX1 kX2 kX3
 have HB := Kp.mk (HB.1.step hbl)
 have HA := Kp.mk (HA.1.step hbl)
 have HX := Kp.mk (HX.1.step hbl)
 clear hbl
 obtain ⟨kA0, kA1, kA2, kA3⟩ := HA.1.cs
 obtain ⟨kX0, kX1, kX2, kX3⟩ := HX.1.cs
 go_upto_region 11 with fail
 clear kA0 kA1 kA2 kA3 kX0 kX1 kX2 kX3
 have HT := Kp.mk (rg_new s 26 HB.1.below)
 have hbl := (Below.refl u10.heap.size u10).alloc (Nat.le_refl _) (.cells #[.int .i8 s.f, .int .i64 s.d, .int .i8 s.g, .int .i64 s.e] 26)
 have HB := Kp.mk (HB.1.step hbl)
 have HA := Kp.mk (HA.1.step hbl)
 have HX := Kp.mk (HX.1.step hbl)
 clear hbl
 generalize u10.alloc (.cells #[.int .i8 s.f, .int .i64 s.d, .int .i8 s.g, .int .i64 s.e] 26) = u11 at *
 generalize u10.heap.size = b3 at *
 obtain ⟨kA0, kA1, kA2, kA3⟩ := HA.1.cs
 obtain ⟨kX0, kX1, kX2, kX3⟩ := HX.1.cs
 obtain ⟨kT0, kT1, kT2, kT3⟩ := HT.1.cs
 go_wp2_with fail
 refine (g1.1 _).mono ?_
 rintro e u12 ⟨rfl, hbl⟩
 clear kA0 kA1 kA2 kA3 kX0 kX1 kX2 kX3 kT0 kT1 kT2 kT3
 have HB := Kp.mk (HB.1.step hbl)
 have HA := Kp.mk (HA.1.step hbl)
 have HX := Kp.mk (HX.1.step hbl)
 have HT := Kp.mk (HT.1.step hbl)
 clear hbl
 obtain ⟨kA0, kA1, kA2, kA3⟩ := HA.1.cs
 obtain ⟨kX0, kX1, kX2, kX3⟩ := HX.1.cs
 obtain ⟨kT0, kT1, kT2, kT3⟩ := HT.1.cs
 go_wp2_with fail
 refine (s3.1 _ HB.1.below).mono ?_
 rintro e u13 ⟨rfl, hbl⟩
 clear kA0 kA1 kA2 kA3 kX0 kX1 kX2 kX3 kT0 kT1 kT2 kT3
 have HB := Kp.mk (HB.1.step hbl)
 have HA := Kp.mk (HA.1.step hbl)
 have HX := Kp.mk (HX.1.step hbl)
 have HT := Kp.mk (HT.1.step hbl)
 clear hbl
 obtain ⟨kA0, kA1, kA2, kA3⟩ := HA.1.cs
 obtain ⟨kX0, kX1, kX2, kX3⟩ := HX.1.cs
 obtain ⟨kT0, kT1, kT2, kT3⟩ := HT.1.cs
 go_upto_region 16 with fail
 clear kA0 kA1 kA2 kA3 kX0 kX1 kX2 kX3 kT0 kT1 kT2 kT3
 have HV := Kp.mk (rg_new r 26 HB.1.below)
 have hbl := (Below.refl u13.heap.size u13).alloc (Nat.le_refl _) (.cells #[.int .i8 r.f, .int .i64 r.d, .int .i8 r.g, .int .i64 r.e] 26)
 have HB := Kp.mk (HB.1.step hbl)
 have HA := Kp.mk (HA.1.step hbl)
 have HX := Kp.mk (HX.1.step hbl)
 have HT := Kp.mk (HT.1.step hbl)
 clear hbl
 generalize u13.alloc (.cells #[.int .i8 r.f, .int .i64 r.d, .int .i8 r.g, .int .i64 r.e] 26) = u14 at *
 generalize u13.heap.size = b4 at *
 obtain ⟨kA0, kA1, kA2, kA3⟩ := HA.1.cs
 obtain ⟨kX0, kX1, kX2, kX3⟩ := HX.1.cs
 obtain ⟨kT0, kT1, kT2, kT3⟩ := HT.1.cs
 obtain ⟨kV0, kV1, kV2, kV3⟩ := HV.1.cs
 go_wp2_with fail
 refine (g2.1 _).mono ?_
 rintro e u15 ⟨rfl, hbl⟩
 clear kA0 kA1 kA2 kA3 kX0 kX1 kX2 kX3 kT0 kT1 kT2 kT3 kV0 kV1 kV2 kV3
 have HB := Kp.mk (HB.1.step hbl)
 have HA := Kp.mk (HA.1.step hbl)
 have HX := Kp.mk (HX.1.step hbl)
 have HT := Kp.mk (HT.1.step hbl)
 have HV := Kp.mk (HV.1.step hbl)
 clear hbl
 obtain ⟨kA0, kA1, kA2, kA3⟩ := HA.1.cs
 obtain ⟨kX0, kX1, kX2, kX3⟩ := HX.1.cs
 obtain ⟨kT0, kT1, kT2, kT3⟩ := HT.1.cs
 obtain ⟨kV0, kV1, kV2, kV3⟩ := HV.1.cs
 go_wp2_with fail
 refine (rl.1 _ HB.1.below).mono ?_
 rintro e u16 ⟨rfl, hbl⟩
 clear kA0 kA1 kA2 kA3 kX0 kX1 kX2 kX3 kT0 kT1 kT2 kT3 kV0 kV1 kV2 kV3
 have HB := Kp.mk (HB.1.step hbl)
 have HA := Kp.mk (HA.1.step hbl)
 have HX := Kp.mk (HX.1.step hbl)
 have HT := Kp.mk (HT.1.step hbl)
 have HV := Kp.mk (HV.1.step hbl)
 clear hbl
 obtain ⟨kA0, kA1, kA2, kA3⟩ := HA.1.cs
 obtain ⟨kX0, kX1, kX2, kX3⟩ := HX.1.cs
 obtain ⟨kT0, kT1, kT2, kT3⟩ := HT.1.cs
 obtain ⟨kV0, kV1, kV2, kV3⟩ := HV.1.cs
 go_wp2_with fail
 go_ret
 exact ⟨rfl, HB.1.below⟩
end Go.Proofs.YteddfolhpoikcaaGreatDoor
