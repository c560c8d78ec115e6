/-
 DERIVED. CONTRACTS of package runs (the developers' functions): Join, Common, Within, Has. Written by mkrnd2.py.
-/
import Derived.Test.YtndjcmclmhoigaaGreatDoorPB8
import Derived.Test.YtndjcmclmhoigaaGreatDoorPA3
namespace Go.Proofs.YtndjcmclmhoigaaGreatDoor
open Go.RowKit
set_option maxRecDepth 100000

theorem Rg.ne {w W : World} {k : Nat} {r : Rn} (h : Rg w k r W) : ¬ W.heap.size = k := by have := h.size; omega
theorem cell_setL (W : World) (k j i : Nat) (f d g e : Int) (h : j ≠ k) : (World.setL W k f d g e).cell? ⟨j, i, none⟩ = W.cell? ⟨j, i, none⟩ := by
 have hn : ∀ i' : Nat, (⟨k, i', none⟩ : Addr) ≠ ⟨j, i, none⟩ := fun i' q => h (by have := congrArg Addr.block q; exact this.symm)
 unfold World.setL
 rw [World.cell?_setCell_other _ _ _ _ (hn _), World.cell?_setCell_other _ _ _ _ (hn _), World.cell?_setCell_other _ _ _ _ (hn _), World.cell?_setCell_other _ _ _ _ (hn _)]
theorem size_setL (W : World) (k : Nat) (f d g e : Int) : (World.setL W k f d g e).heap.size = W.heap.size := by simp [World.setL, World.setCell]
theorem Rg.other {w W : World} {k j : Nat} {r : Rn} (h : Rg w k r W) (hn : ¬ k = j) (hj : w.heap.size ≤ j) (f d g e : Int) : Rg w k r (World.setL W j f d g e) :=
 ⟨below_setL h.below hj f d g e, by rw [size_setL]; exact h.size, by rw [cell_setL _ _ _ _ _ _ _ _ hn]; exact h.c0, by rw [cell_setL _ _ _ _ _ _ _ _ hn]; exact h.c1, by rw [cell_setL _ _ _ _ _ _ _ _ hn]; exact h.c2, by rw [cell_setL _ _ _ _ _ _ _ _ hn]; exact h.c3⟩
/-- two parameters and the result's block -/
theorem rg_three (w : World) (a b : Rn) (W : World) (hW : W = ((w.alloc (.cells #[.int .i8 a.f, .int .i64 a.d, .int .i8 a.g, .int .i64 a.e] 26)).alloc (.cells #[.int .i8 b.f, .int .i64 b.d, .int .i8 b.g, .int .i64 b.e] 26)).alloc (.cells #[.int .i8 0, .int .i64 0, .int .i8 0, .int .i64 0] 26)) :
 Rg w w.heap.size a W ∧ Rg w (w.heap.size + 1) b W ∧ Rl w (w.heap.size + 1 + 1) 0 0 0 0 W := by
 subst hW
 have h1 := (rg_two w a b).1
 have h2 := (rg_two w a b).2
 have hs := (Below.refl ((w.alloc (.cells #[.int .i8 a.f, .int .i64 a.d, .int .i8 a.g, .int .i64 a.e] 26)).alloc (.cells #[.int .i8 b.f, .int .i64 b.d, .int .i8 b.g, .int .i64 b.e] 26)).heap.size _).alloc (Nat.le_refl _) (.cells #[.int .i8 0, .int .i64 0, .int .i8 0, .int .i64 0] 26)
 have h3 := rl_new 0 0 0 0 h1.below
 rw [World.size_alloc, World.size_alloc] at h3
 exact ⟨h1.step hs, h2.step hs, h3⟩
theorem joinN_f {a b v : Rn} (hv : joinN a b = v) : v.f = (if cmpE a.f a.d b.f b.d ≤ 0 then a.f else b.f) ∧ v.d = (if cmpE a.f a.d b.f b.d ≤ 0 then a.d else b.d) ∧ v.g = (if cmpE a.g a.e b.g b.e ≤ 0 then b.g else a.g) ∧ v.e = (if cmpE a.g a.e b.g b.e ≤ 0 then b.e else a.e) := by
 subst hv
 have h1 := cmpE_swap a.f a.d b.f b.d
 have h2 := cmpE_swap a.g a.e b.g b.e
 have z1 := cmpE_zero a.f a.d b.f b.d
 have z2 := cmpE_zero a.g a.e b.g b.e
 unfold joinN
 simp only
 refine ⟨?_, ?_, ?_, ?_⟩ <;> split <;> split <;> omega
theorem commN_f {a b v : Rn} (hv : commN a b = v) : v.f = (if cmpE a.f a.d b.f b.d ≤ 0 then b.f else a.f) ∧ v.d = (if cmpE a.f a.d b.f b.d ≤ 0 then b.d else a.d) ∧ v.g = (if cmpE a.g a.e b.g b.e ≤ 0 then a.g else b.g) ∧ v.e = (if cmpE a.g a.e b.g b.e ≤ 0 then a.e else b.e) := by
 subst hv
 have h1 := cmpE_swap a.f a.d b.f b.d
 have h2 := cmpE_swap a.g a.e b.g b.e
 have z1 := cmpE_zero a.f a.d b.f b.d
 have z2 := cmpE_zero a.g a.e b.g b.e
 unfold commN
 simp only
 refine ⟨?_, ?_, ?_, ?_⟩ <;> split <;> split <;> omega
set_option maxHeartbeats 8000000 in
theorem dMin_is {f d g e x y : Int} (d0 : -9223372036854775808 ≤ d) (d1 : d ≤ 9223372036854775807) (e0 : -9223372036854775808 ≤ e) (e1 : e ≤ 9223372036854775807) (hx : x = (if cmpE f d g e ≤ 0 then f else g)) (hy : y = (if cmpE f d g e ≤ 0 then d else e)) (w : World) (hL : LaidEn w) :
 Calls Tryz.prog 79 #[.agg #[.int .i8 f, .int .i64 d], .agg #[.int .i8 g, .int .i64 e]] w fun z w' => z = .returned (.agg #[.int .i8 x, .int .i64 y]) ∧ Below w.heap.size w w' := by
 by_cases h : cmpE f d g e ≤ 0
 ·rw [if_pos h] at hx hy; subst hx hy; exact endCoreN.min_le w hL d0 d1 e0 e1 h
 ·rw [if_neg h] at hx hy; subst hx hy; exact endCoreN.min_gt w hL d0 d1 e0 e1 h
theorem dMax_is {f d g e x y : Int} (d0 : -9223372036854775808 ≤ d) (d1 : d ≤ 9223372036854775807) (e0 : -9223372036854775808 ≤ e) (e1 : e ≤ 9223372036854775807) (hx : x = (if cmpE f d g e ≤ 0 then g else f)) (hy : y = (if cmpE f d g e ≤ 0 then e else d)) (w : World) (hL : LaidEn w) :
 Calls Tryz.prog 80 #[.agg #[.int .i8 f, .int .i64 d], .agg #[.int .i8 g, .int .i64 e]] w fun z w' => z = .returned (.agg #[.int .i8 x, .int .i64 y]) ∧ Below w.heap.size w w' := by
 by_cases h : cmpE f d g e ≤ 0
 ·rw [if_pos h] at hx hy; subst hx hy; exact endCoreN.max_le w hL d0 d1 e0 e1 h
 ·rw [if_neg h] at hx hy; subst hx hy; exact endCoreN.max_gt w hL d0 d1 e0 e1 h
set_option maxHeartbeats 8000000 in
theorem dJoin_is {a b v : Rn} (ha : a.In) (hb : b.In) (ht : touchN a b = true) (hv : joinN a b = v) (w : World) (hL : LaidEn w) :
 Calls Tryz.prog 20 #[.agg #[.int .i8 a.f, .int .i64 a.d, .int .i8 a.g, .int .i64 a.e], .agg #[.int .i8 b.f, .int .i64 b.d, .int .i8 b.g, .int .i64 b.e]] w fun x w' => x = .returned (.tuple #[.agg #[.int .i8 v.f, .int .i64 v.d, .int .i8 v.g, .int .i64 v.e], .bool true]) ∧ Below w.heap.size w w' := by
 obtain ⟨h1, h2, h3⟩ := rg_three w a b _ rfl
 have HA := Kp.mk h1
 have HC := Kp.mk h2
 have HR := Kp.mk h3
 have HB := Kp.mk (bl_of h1)
 clear h1 h2 h3
 have NHRHA : Kp (¬ w.heap.size + 1 + 1 = w.heap.size) := Kp.mk (by omega)
 have NHRHC : Kp (¬ w.heap.size + 1 + 1 = w.heap.size + 1) := Kp.mk (by omega)
 obtain ⟨q0, q1, q2, q3⟩ := joinN_f hv
 have r1 : Kp (∀ u, Below w.heap.size w u → Calls Tryz.prog 22 #[rv a, rv b] u fun e w' => e = .returned (.bool true) ∧ Below u.heap.size u w') := Kp.mk (fun u hw => dTouch_is ha hb ht u (hL.below hw))
 have r2 : Kp (∀ u, Below w.heap.size w u → Calls Tryz.prog 79 #[.agg #[.int .i8 a.f, .int .i64 a.d], .agg #[.int .i8 b.f, .int .i64 b.d]] u fun e w' => e = .returned (.agg #[.int .i8 v.f, .int .i64 v.d]) ∧ Below u.heap.size u w') := Kp.mk (fun u hw => dMin_is ha.d0 ha.d1 hb.d0 hb.d1 q0 q1 u (hL.below hw))
 have r3 : Kp (∀ u, Below w.heap.size w u → Calls Tryz.prog 80 #[.agg #[.int .i8 a.g, .int .i64 a.e], .agg #[.int .i8 b.g, .int .i64 b.e]] u fun e w' => e = .returned (.agg #[.int .i8 v.g, .int .i64 v.e]) ∧ Below u.heap.size u w') := Kp.mk (fun u hw => dMax_is ha.e0 ha.e1 hb.e0 hb.e1 q2 q3 u (hL.below hw))
 clear ha hb ht hv hL q0 q1 q2 q3
 go_enter Tryz.func20, Tryz.ntmps20
 go_upto_region 1 with fail
 generalize ((w.alloc (.cells #[.int .i8 a.f, .int .i64 a.d, .int .i8 a.g, .int .i64 a.e] 26)).alloc (.cells #[.int .i8 b.f, .int .i64 b.d, .int .i8 b.g, .int .i64 b.e] 26)).alloc (.cells #[.int .i8 0, .int .i64 0, .int .i8 0, .int .i64 0] 26) = w0 at *
 obtain ⟨kHA0, kHA1, kHA2, kHA3⟩ := HA.1.cs
 obtain ⟨kHC0, kHC1, kHC2, kHC3⟩ := HC.1.cs
 go_wp2_with fail
 refine (r1.1 _ HB.1.below).mono ?_
 rintro e u1 ⟨rfl, hbl⟩
 clear kHA0 kHA1 kHA2 kHA3 kHC0 kHC1 kHC2 kHC3
 have HB := Kp.mk (HB.1.step hbl)
 have HA := Kp.mk (HA.1.step hbl)
 have HC := Kp.mk (HC.1.step hbl)
 have HR := Kp.mk (HR.1.step hbl)
 clear hbl
 obtain ⟨kHA0, kHA1, kHA2, kHA3⟩ := HA.1.cs
 obtain ⟨kHC0, kHC1, kHC2, kHC3⟩ := HC.1.cs
 go_upto_region 3 with fail
 clear kHA0 kHA1 kHA2 kHA3 kHC0 kHC1 kHC2 kHC3
 have hd := (Below.refl u1.heap.size u1).drew
 have HB := Kp.mk (HB.1.step hd)
 have HA := Kp.mk (HA.1.step hd)
 have HC := Kp.mk (HC.1.step hd)
 have HR := Kp.mk (HR.1.step hd)
 clear hd
 refine wp_region_held_drew (S := fun w' => w'.cell? ⟨w.heap.size, 0, none⟩ = some (.int .i8 a.f) ∧ w'.cell? ⟨w.heap.size, 1, none⟩ = some (.int .i64 a.d) ∧ w'.cell? ⟨w.heap.size, 2, none⟩ = some (.int .i8 a.g) ∧ w'.cell? ⟨w.heap.size, 3, none⟩ = some (.int .i64 a.e) ∧ w'.cell? ⟨w.heap.size + 1, 0, none⟩ = some (.int .i8 b.f) ∧ w'.cell? ⟨w.heap.size + 1, 1, none⟩ = some (.int .i64 b.d) ∧ w'.cell? ⟨w.heap.size + 1, 2, none⟩ = some (.int .i8 b.g) ∧ w'.cell? ⟨w.heap.size + 1, 3, none⟩ = some (.int .i64 b.e)) (by kernel_rfl) ?_ (fun hHeld => ?_)
 ·exact ⟨HA.1.c0, HA.1.c1, HA.1.c2, HA.1.c3, HC.1.c0, HC.1.c1, HC.1.c2, HC.1.c3⟩
 generalize u1.drew = vz at *
 refine tk 0 ?_ rfl hHeld ?_ ?_
 rotate_left
 ·(intro w hSw; (try dsimp only at hSw); go_simp; try with_reducible rfl)
 try simp only [pt]
 refine tk 1 ?_ rfl hHeld ?_ ?_
 rotate_left
 ·(intro w hSw; (try dsimp only at hSw); go_simp; try with_reducible rfl)
 try simp only [pt]
 refine tk 2 ?_ rfl hHeld ?_ ?_
 rotate_left
 ·(intro w hSw; (try dsimp only at hSw); go_simp; try with_reducible rfl)
 try simp only [pt]
 refine tk 3 ?_ rfl hHeld ?_ ?_
 rotate_left
 ·(intro w hSw; (try dsimp only at hSw); go_simp; try with_reducible rfl)
 try simp only [pt]
 refine tk 5 ?_ rfl hHeld ?_ ?_
 rotate_left
 ·(intro w hSw; (try dsimp only at hSw); go_simp; try with_reducible rfl)
 try simp only [pt]
 refine tk 6 ?_ rfl hHeld ?_ ?_
 rotate_left
 ·(intro w hSw; (try dsimp only at hSw); go_simp; try with_reducible rfl)
 try simp only [pt]
 refine tk 7 ?_ rfl hHeld ?_ ?_
 rotate_left
 ·(intro w hSw; (try dsimp only at hSw); go_simp; try with_reducible rfl)
 try simp only [pt]
 refine tk 8 ?_ rfl hHeld ?_ ?_
 rotate_left
 ·(intro w hSw; (try dsimp only at hSw); go_simp; try with_reducible rfl)
 try simp only [pt]
 refine rd [4] ?_
 refine AllReadyH.cons (dropAt rfl) (fun K hK => ?_) AllReadyH.nil
 ·clear hHeld
  go_simp
  go_at_call 79
  with_reducible refine (r2.1 _ HB.1.below).mono ?_
  rintro e v1 ⟨rfl, hb⟩
  have HB := Kp.mk (HB.1.step hb)
  have HA := Kp.mk (HA.1.step hb)
  have HC := Kp.mk (HC.1.step hb)
  have HR := Kp.mk (HR.1.step hb)
  clear hb
  go_wp2_with fail
  refine hK.out _ _ ?_ (fun hHeld => ?_)
  ·exact ⟨HA.1.c0, HA.1.c1, HA.1.c2, HA.1.c3, HC.1.c0, HC.1.c1, HC.1.c2, HC.1.c3⟩
  clear hK K
  try simp only [pt]
  refine rd [9] ?_
  refine AllReadyH.cons (dropAt rfl) (fun K hK => ?_) AllReadyH.nil
  ·clear hHeld
   go_simp
   go_at_call 80
   with_reducible refine (r3.1 _ HB.1.below).mono ?_
   rintro e v2 ⟨rfl, hb⟩
   have HB := Kp.mk (HB.1.step hb)
   have HA := Kp.mk (HA.1.step hb)
   have HC := Kp.mk (HC.1.step hb)
   have HR := Kp.mk (HR.1.step hb)
   clear hb
   go_wp2_with fail
   refine hK.out _ _ ?_ (fun hHeld => ?_)
   ·exact ⟨HA.1.c0, HA.1.c1, HA.1.c2, HA.1.c3, HC.1.c0, HC.1.c1, HC.1.c2, HC.1.c3⟩
   clear hK K
   try simp only [pt]
   refine tk 10 ?_ rfl hHeld ?_ ?_
   rotate_left
   ·(intro w hSw; (try dsimp only at hSw); go_simp; try with_reducible rfl)
   try simp only [pt]
   refine rd [11] ?_
   refine AllReadyH.cons (dropAt rfl) (fun K hK => ?_) AllReadyH.nil
   ·clear hHeld
    have k0 : v2.cell? ⟨(w.heap.size + 1 + 1), 0, none⟩ = some (.int .i8 0) := HR.1.c0
    have l0 := HR.1.frozen 0
    have k1 : v2.cell? ⟨(w.heap.size + 1 + 1), 1, none⟩ = some (.int .i64 0) := HR.1.c1
    have l1 := HR.1.frozen 1
    have k2 : v2.cell? ⟨(w.heap.size + 1 + 1), 2, none⟩ = some (.int .i8 0) := HR.1.c2
    have l2 := HR.1.frozen 2
    have k3 : v2.cell? ⟨(w.heap.size + 1 + 1), 3, none⟩ = some (.int .i64 0) := HR.1.c3
    have l3 := HR.1.frozen 3
    go_simp
    clear k0 k1 k2 k3 l0 l1 l2 l3
    have bs0 := HR.1.base
    have HB : Kp (Bl w ((((v2.setCell ⟨(w.heap.size + 1 + 1), 0, none⟩ (.int .i8 v.f)).setCell ⟨(w.heap.size + 1 + 1), 1, none⟩ (.int .i64 v.d)).setCell ⟨(w.heap.size + 1 + 1), 2, none⟩ (.int .i8 v.g)).setCell ⟨(w.heap.size + 1 + 1), 3, none⟩ (.int .i64 v.e))) := Kp.mk (Bl.mk (below_setL HB.1.below bs0 v.f v.d v.g v.e))
    have HA : Kp (Rg w (w.heap.size) a ((((v2.setCell ⟨(w.heap.size + 1 + 1), 0, none⟩ (.int .i8 v.f)).setCell ⟨(w.heap.size + 1 + 1), 1, none⟩ (.int .i64 v.d)).setCell ⟨(w.heap.size + 1 + 1), 2, none⟩ (.int .i8 v.g)).setCell ⟨(w.heap.size + 1 + 1), 3, none⟩ (.int .i64 v.e))) := Kp.mk (HA.1.other (fun q => NHRHA.1 q.symm) bs0 v.f v.d v.g v.e)
    have HC : Kp (Rg w (w.heap.size + 1) b ((((v2.setCell ⟨(w.heap.size + 1 + 1), 0, none⟩ (.int .i8 v.f)).setCell ⟨(w.heap.size + 1 + 1), 1, none⟩ (.int .i64 v.d)).setCell ⟨(w.heap.size + 1 + 1), 2, none⟩ (.int .i8 v.g)).setCell ⟨(w.heap.size + 1 + 1), 3, none⟩ (.int .i64 v.e))) := Kp.mk (HC.1.other (fun q => NHRHC.1 q.symm) bs0 v.f v.d v.g v.e)
    have HR : Kp (Rl w (w.heap.size + 1 + 1) v.f v.d v.g v.e ((((v2.setCell ⟨(w.heap.size + 1 + 1), 0, none⟩ (.int .i8 v.f)).setCell ⟨(w.heap.size + 1 + 1), 1, none⟩ (.int .i64 v.d)).setCell ⟨(w.heap.size + 1 + 1), 2, none⟩ (.int .i8 v.g)).setCell ⟨(w.heap.size + 1 + 1), 3, none⟩ (.int .i64 v.e))) := Kp.mk (HR.1.fill v.f v.d v.g v.e)
    clear bs0
    generalize ((((v2.setCell ⟨(w.heap.size + 1 + 1), 0, none⟩ (.int .i8 v.f)).setCell ⟨(w.heap.size + 1 + 1), 1, none⟩ (.int .i64 v.d)).setCell ⟨(w.heap.size + 1 + 1), 2, none⟩ (.int .i8 v.g)).setCell ⟨(w.heap.size + 1 + 1), 3, none⟩ (.int .i64 v.e)) = v3 at *
    refine hK.out _ _ ?_ (fun hHeld => ?_)
    ·exact ⟨HA.1.c0, HA.1.c1, HA.1.c2, HA.1.c3, HC.1.c0, HC.1.c1, HC.1.c2, HC.1.c3⟩
    clear hK K
    try simp only [pt]
    refine tk 12 ?_ rfl hHeld ?_ ?_
    rotate_left
    ·(intro w hSw; (try dsimp only at hSw); go_simp; try with_reducible rfl)
    try simp only [pt]
    refine wpAnyH_done (by kernel_rfl) ?_ _
    clear hHeld
    go_wp2_with fail
    refine bodyPost_ret (results_cell_tmp (p := 4) (ty := 26) rfl _ _ (w.heap.size + 1 + 1) 26 #[.int .i8 v.f, .int .i64 v.d, .int .i8 v.g, .int .i64 v.e] (0, 0) _ rfl HR.1.heap Tryz.underlying26 rfl infoRn) rfl ?_
    exact ⟨rfl, HB.1.below⟩
theorem comm_q {a b v : Rn} (ha : a.In) (hb : b.In) (h1 : chkR a = 0) (h2 : chkR b = 0) (hv : commN a b = v) : (v.In ∧ (0 < cmpE v.f v.d v.g v.e ↔ meetN a b = false)) := by
 have hA := (chkR_zero ha).1 h1
 have hC := (chkR_zero hb).1 h2
 obtain ⟨q0, q1, q2, q3⟩ := commN_f hv
 have i := commN_in ha hb
 rw [hv] at i
 refine ⟨i, ?_⟩
 have p1 := hA.pos
 have p2 := hC.pos
 have p1l := p1.pl
 have p1h := p1.ph
 have p2l := p2.pl
 have p2h := p2.ph
 have p1e := p1.le
 have p2e := p2.le
 have c1 := cmp_lo hA hC
 have c2 := cmp_hi hA hC
 rw [c1] at q0 q1
 rw [c2] at q2 q3
 have e1 := cmpI_cases a.lo b.lo
 have e2 := cmpI_cases a.hi b.hi
 have hle := cmpE_le v.f v.d v.g v.e
 have hm : meetN a b = false ↔ ¬ (a.lo ≤ b.hi ∧ b.lo ≤ a.hi) := by
  unfold meetN
  rw [decide_eq_false_iff_not]
  constructor
  ·intro h q; exact h ⟨h1, h2, q.1, q.2⟩
  ·intro h q; exact h ⟨q.2.2.1, q.2.2.2⟩
 rw [hm]
 generalize cmpI a.lo b.lo = x at *
 generalize cmpI a.hi b.hi = y at *
 clear c1 c2 hm i hv h1 h2 hA hC p1 p2 ha hb
 rcases e1 with e1 | e1 | e1 <;> rcases e2 with e2 | e2 | e2 <;> simp only [e1.2, e2.2] at q0 q1 q2 q3 <;> simp at q0 q1 q2 q3 <;> rw [← Int.not_le, hle] <;> constructor <;> intro h <;> omega
set_option maxHeartbeats 8000000 in
theorem dComm_is {a b v : Rn} (ha : a.In) (hb : b.In) (hm0 : meetN a b = true) (hv : commN a b = v) (w : World) (hL : LaidEn w) :
 Calls Tryz.prog 21 #[.agg #[.int .i8 a.f, .int .i64 a.d, .int .i8 a.g, .int .i64 a.e], .agg #[.int .i8 b.f, .int .i64 b.d, .int .i8 b.g, .int .i64 b.e]] w fun x w' => x = .returned (.tuple #[.agg #[.int .i8 v.f, .int .i64 v.d, .int .i8 v.g, .int .i64 v.e], .bool true]) ∧ Below w.heap.size w w' := by
 obtain ⟨h1, h2, h3⟩ := rg_three w a b _ rfl
 have HA := Kp.mk h1
 have HC := Kp.mk h2
 have HR := Kp.mk h3
 have HB := Kp.mk (bl_of h1)
 clear h1 h2 h3
 have NHRHA : Kp (¬ w.heap.size + 1 + 1 = w.heap.size) := Kp.mk (by omega)
 have NHRHC : Kp (¬ w.heap.size + 1 + 1 = w.heap.size + 1) := Kp.mk (by omega)
 obtain ⟨c1, c2, _, _⟩ := of_decide_eq_true hm0
 obtain ⟨q0, q1, q2, q3⟩ := commN_f hv
 obtain ⟨hi, hm⟩ := comm_q ha hb c1 c2 hv
 have r1 : Kp (∀ u, Below w.heap.size w u → Calls Tryz.prog 81 #[rv a, rv b] u fun e w' => e = .returned (.bool true) ∧ Below u.heap.size u w') := Kp.mk (fun u hw => dAre_is ha hb (decide_eq_true ⟨c1, c2⟩) u (hL.below hw))
 have r2 : Kp (∀ u, Below w.heap.size w u → Calls Tryz.prog 80 #[.agg #[.int .i8 a.f, .int .i64 a.d], .agg #[.int .i8 b.f, .int .i64 b.d]] u fun e w' => e = .returned (.agg #[.int .i8 v.f, .int .i64 v.d]) ∧ Below u.heap.size u w') := Kp.mk (fun u hw => dMax_is ha.d0 ha.d1 hb.d0 hb.d1 q0 q1 u (hL.below hw))
 have r3 : Kp (∀ u, Below w.heap.size w u → Calls Tryz.prog 79 #[.agg #[.int .i8 a.g, .int .i64 a.e], .agg #[.int .i8 b.g, .int .i64 b.e]] u fun e w' => e = .returned (.agg #[.int .i8 v.g, .int .i64 v.e]) ∧ Below u.heap.size u w') := Kp.mk (fun u hw => dMin_is ha.e0 ha.e1 hb.e0 hb.e1 q2 q3 u (hL.below hw))
 obtain ⟨q, hq⟩ : ∃ q, cmpE v.f v.d v.g v.e = q := ⟨_, rfl⟩
 have r4 : Kp (∀ u, Below w.heap.size w u → Calls Tryz.prog 75 #[.agg #[.int .i8 v.f, .int .i64 v.d], .agg #[.int .i8 v.g, .int .i64 v.e]] u fun e w' => e = .returned (.int .i64 q) ∧ Below u.heap.size u w') := Kp.mk (fun u hw => endCoreN.cmp u (hL.below hw) hi.d0 hi.d1 hi.e0 hi.e1 hq)
 rw [hq] at hm
 have t : ¬ 0 < q := fun h => by rw [hm.1 h] at hm0; cases hm0
 clear ha hb hm0 hv hL q0 q1 q2 q3 hm hq hi c1 c2
 go_enter Tryz.func21, Tryz.ntmps21
 go_upto_region 1 with fail
 generalize ((w.alloc (.cells #[.int .i8 a.f, .int .i64 a.d, .int .i8 a.g, .int .i64 a.e] 26)).alloc (.cells #[.int .i8 b.f, .int .i64 b.d, .int .i8 b.g, .int .i64 b.e] 26)).alloc (.cells #[.int .i8 0, .int .i64 0, .int .i8 0, .int .i64 0] 26) = w0 at *
 obtain ⟨kHA0, kHA1, kHA2, kHA3⟩ := HA.1.cs
 obtain ⟨kHC0, kHC1, kHC2, kHC3⟩ := HC.1.cs
 go_wp2_with fail
 refine (r1.1 _ HB.1.below).mono ?_
 rintro e u1 ⟨rfl, hbl⟩
 clear kHA0 kHA1 kHA2 kHA3 kHC0 kHC1 kHC2 kHC3
 have HB := Kp.mk (HB.1.step hbl)
 have HA := Kp.mk (HA.1.step hbl)
 have HC := Kp.mk (HC.1.step hbl)
 have HR := Kp.mk (HR.1.step hbl)
 clear hbl
 obtain ⟨kHA0, kHA1, kHA2, kHA3⟩ := HA.1.cs
 obtain ⟨kHC0, kHC1, kHC2, kHC3⟩ := HC.1.cs
 go_upto_region 3 with fail
 clear kHA0 kHA1 kHA2 kHA3 kHC0 kHC1 kHC2 kHC3
 have hd := (Below.refl u1.heap.size u1).drew
 have HB := Kp.mk (HB.1.step hd)
 have HA := Kp.mk (HA.1.step hd)
 have HC := Kp.mk (HC.1.step hd)
 have HR := Kp.mk (HR.1.step hd)
 clear hd
 refine wp_region_held_drew (S := fun w' => w'.cell? ⟨w.heap.size, 0, none⟩ = some (.int .i8 a.f) ∧ w'.cell? ⟨w.heap.size, 1, none⟩ = some (.int .i64 a.d) ∧ w'.cell? ⟨w.heap.size, 2, none⟩ = some (.int .i8 a.g) ∧ w'.cell? ⟨w.heap.size, 3, none⟩ = some (.int .i64 a.e) ∧ w'.cell? ⟨w.heap.size + 1, 0, none⟩ = some (.int .i8 b.f) ∧ w'.cell? ⟨w.heap.size + 1, 1, none⟩ = some (.int .i64 b.d) ∧ w'.cell? ⟨w.heap.size + 1, 2, none⟩ = some (.int .i8 b.g) ∧ w'.cell? ⟨w.heap.size + 1, 3, none⟩ = some (.int .i64 b.e)) (by kernel_rfl) ?_ (fun hHeld => ?_)
 ·exact ⟨HA.1.c0, HA.1.c1, HA.1.c2, HA.1.c3, HC.1.c0, HC.1.c1, HC.1.c2, HC.1.c3⟩
 generalize u1.drew = vz at *
 refine tk 0 ?_ rfl hHeld ?_ ?_
 rotate_left
 ·(intro w hSw; (try dsimp only at hSw); go_simp; try with_reducible rfl)
 try simp only [pt]
 refine tk 1 ?_ rfl hHeld ?_ ?_
 rotate_left
 ·(intro w hSw; (try dsimp only at hSw); go_simp; try with_reducible rfl)
 try simp only [pt]
 refine tk 2 ?_ rfl hHeld ?_ ?_
 rotate_left
 ·(intro w hSw; (try dsimp only at hSw); go_simp; try with_reducible rfl)
 try simp only [pt]
 refine tk 3 ?_ rfl hHeld ?_ ?_
 rotate_left
 ·(intro w hSw; (try dsimp only at hSw); go_simp; try with_reducible rfl)
 try simp only [pt]
 refine tk 5 ?_ rfl hHeld ?_ ?_
 rotate_left
 ·(intro w hSw; (try dsimp only at hSw); go_simp; try with_reducible rfl)
 try simp only [pt]
 refine tk 6 ?_ rfl hHeld ?_ ?_
 rotate_left
 ·(intro w hSw; (try dsimp only at hSw); go_simp; try with_reducible rfl)
 try simp only [pt]
 refine tk 7 ?_ rfl hHeld ?_ ?_
 rotate_left
 ·(intro w hSw; (try dsimp only at hSw); go_simp; try with_reducible rfl)
 try simp only [pt]
 refine tk 8 ?_ rfl hHeld ?_ ?_
 rotate_left
 ·(intro w hSw; (try dsimp only at hSw); go_simp; try with_reducible rfl)
 try simp only [pt]
 refine rd [4, 11] ?_
 refine AllReadyH.cons (dropAt rfl) (fun K hK => ?_) (AllReadyH.cons (dropAt rfl) (fun K hK => ?_) AllReadyH.nil)
 ·clear hHeld
  go_simp
  go_at_call 80
  with_reducible refine (r2.1 _ HB.1.below).mono ?_
  rintro e v1 ⟨rfl, hb⟩
  have HB := Kp.mk (HB.1.step hb)
  have HA := Kp.mk (HA.1.step hb)
  have HC := Kp.mk (HC.1.step hb)
  have HR := Kp.mk (HR.1.step hb)
  clear hb
  go_wp2_with fail
  refine hK.out _ _ ?_ (fun hHeld => ?_)
  ·exact ⟨HA.1.c0, HA.1.c1, HA.1.c2, HA.1.c3, HC.1.c0, HC.1.c1, HC.1.c2, HC.1.c3⟩
  clear hK K
  try simp only [pt]
  refine rd [9, 11] ?_
  refine AllReadyH.cons (dropAt rfl) (fun K hK => ?_) (AllReadyH.cons (dropAt rfl) (fun K hK => ?_) AllReadyH.nil)
  ·clear hHeld
   go_simp
   go_at_call 79
   with_reducible refine (r3.1 _ HB.1.below).mono ?_
   rintro e v2 ⟨rfl, hb⟩
   have HB := Kp.mk (HB.1.step hb)
   have HA := Kp.mk (HA.1.step hb)
   have HC := Kp.mk (HC.1.step hb)
   have HR := Kp.mk (HR.1.step hb)
   clear hb
   go_wp2_with fail
   refine hK.out _ _ ?_ (fun hHeld => ?_)
   ·exact ⟨HA.1.c0, HA.1.c1, HA.1.c2, HA.1.c3, HC.1.c0, HC.1.c1, HC.1.c2, HC.1.c3⟩
   clear hK K
   try simp only [pt]
   refine tk 10 ?_ rfl hHeld ?_ ?_
   rotate_left
   ·(intro w hSw; (try dsimp only at hSw); go_simp; try with_reducible rfl)
   try simp only [pt]
   refine rd [11] ?_
   refine AllReadyH.cons (dropAt rfl) (fun K hK => ?_) AllReadyH.nil
   ·clear hHeld
    go_simp
    have hbl := (Below.refl v2.heap.size v2).alloc (Nat.le_refl _) (.cells #[.int .i8 0, .int .i64 0, .int .i8 0, .int .i64 0] 26)
    have HX := Kp.mk (rl_new 0 0 0 0 HB.1.below)
    have NHXHR := Kp.mk HR.1.ne
    have NHXHA := Kp.mk HA.1.ne
    have NHXHC := Kp.mk HC.1.ne
    have HB := Kp.mk (HB.1.step hbl)
    have HA := Kp.mk (HA.1.step hbl)
    have HC := Kp.mk (HC.1.step hbl)
    have HR := Kp.mk (HR.1.step hbl)
    clear hbl
    generalize v2.alloc (.cells #[.int .i8 0, .int .i64 0, .int .i8 0, .int .i64 0] 26) = v3 at *
    generalize v2.heap.size = gHX at *
    refine hK.out _ _ ?_ (fun hHeld => ?_)
    ·exact ⟨HA.1.c0, HA.1.c1, HA.1.c2, HA.1.c3, HC.1.c0, HC.1.c1, HC.1.c2, HC.1.c3⟩
    clear hK K
    try simp only [pt]
    refine rd [12] ?_
    refine AllReadyH.cons (dropAt rfl) (fun K hK => ?_) AllReadyH.nil
    ·clear hHeld
     have k0 : v3.cell? ⟨gHX, 0, none⟩ = some (.int .i8 0) := HX.1.c0
     have l0 := HX.1.frozen 0
     have k1 : v3.cell? ⟨gHX, 1, none⟩ = some (.int .i64 0) := HX.1.c1
     have l1 := HX.1.frozen 1
     have k2 : v3.cell? ⟨gHX, 2, none⟩ = some (.int .i8 0) := HX.1.c2
     have l2 := HX.1.frozen 2
     have k3 : v3.cell? ⟨gHX, 3, none⟩ = some (.int .i64 0) := HX.1.c3
     have l3 := HX.1.frozen 3
     go_simp
     clear k0 k1 k2 k3 l0 l1 l2 l3
     have bs0 := HX.1.base
     have HB : Kp (Bl w ((((v3.setCell ⟨gHX, 0, none⟩ (.int .i8 v.f)).setCell ⟨gHX, 1, none⟩ (.int .i64 v.d)).setCell ⟨gHX, 2, none⟩ (.int .i8 v.g)).setCell ⟨gHX, 3, none⟩ (.int .i64 v.e))) := Kp.mk (Bl.mk (below_setL HB.1.below bs0 v.f v.d v.g v.e))
     have HA : Kp (Rg w (w.heap.size) a ((((v3.setCell ⟨gHX, 0, none⟩ (.int .i8 v.f)).setCell ⟨gHX, 1, none⟩ (.int .i64 v.d)).setCell ⟨gHX, 2, none⟩ (.int .i8 v.g)).setCell ⟨gHX, 3, none⟩ (.int .i64 v.e))) := Kp.mk (HA.1.other (fun q => NHXHA.1 q.symm) bs0 v.f v.d v.g v.e)
     have HC : Kp (Rg w (w.heap.size + 1) b ((((v3.setCell ⟨gHX, 0, none⟩ (.int .i8 v.f)).setCell ⟨gHX, 1, none⟩ (.int .i64 v.d)).setCell ⟨gHX, 2, none⟩ (.int .i8 v.g)).setCell ⟨gHX, 3, none⟩ (.int .i64 v.e))) := Kp.mk (HC.1.other (fun q => NHXHC.1 q.symm) bs0 v.f v.d v.g v.e)
     have HR : Kp (Rl w (w.heap.size + 1 + 1) 0 0 0 0 ((((v3.setCell ⟨gHX, 0, none⟩ (.int .i8 v.f)).setCell ⟨gHX, 1, none⟩ (.int .i64 v.d)).setCell ⟨gHX, 2, none⟩ (.int .i8 v.g)).setCell ⟨gHX, 3, none⟩ (.int .i64 v.e))) := Kp.mk (HR.1.other (fun q => NHXHR.1 q.symm) bs0 v.f v.d v.g v.e)
     have HX : Kp (Rl w gHX v.f v.d v.g v.e ((((v3.setCell ⟨gHX, 0, none⟩ (.int .i8 v.f)).setCell ⟨gHX, 1, none⟩ (.int .i64 v.d)).setCell ⟨gHX, 2, none⟩ (.int .i8 v.g)).setCell ⟨gHX, 3, none⟩ (.int .i64 v.e))) := Kp.mk (HX.1.fill v.f v.d v.g v.e)
     clear bs0
     generalize ((((v3.setCell ⟨gHX, 0, none⟩ (.int .i8 v.f)).setCell ⟨gHX, 1, none⟩ (.int .i64 v.d)).setCell ⟨gHX, 2, none⟩ (.int .i8 v.g)).setCell ⟨gHX, 3, none⟩ (.int .i64 v.e)) = v4 at *
     refine hK.out _ _ ?_ (fun hHeld => ?_)
     ·exact ⟨HA.1.c0, HA.1.c1, HA.1.c2, HA.1.c3, HC.1.c0, HC.1.c1, HC.1.c2, HC.1.c3⟩
     clear hK K
     try simp only [pt]
     refine wpAnyH_done (by kernel_rfl) ?_ _
     clear hHeld
     clear NHRHA NHRHC
     obtain ⟨kx0, kx1, kx2, kx3⟩ := HX.1.cs
     go_wp2_with fail
     refine (r4.1 _ HB.1.below).mono ?_
     rintro e uE ⟨rfl, hbl⟩
     have HR := Kp.mk (HR.1.step hbl)
     have HX := Kp.mk (HX.1.step hbl)
     clear hbl kx0 kx1 kx2 kx3 HA HC HB
     obtain ⟨kx0, kx1, kx2, kx3⟩ := HX.1.cs
     go_wp2_with (first
      | refine wpList_store_row' rfl 26 (.tmp 4) (.tmp 30) rfl (w.heap.size + 1 + 1) #[.int .i8 v.f, .int .i64 v.d, .int .i8 v.g, .int .i64 v.e] rfl rfl 26 #[.int .i8 0, .int .i64 0, .int .i8 0, .int .i64 0] HR.1.heap infoRn rfl (four_rn _ _ _ _) ?_)
     refine bodyPost_ret (results_cell_tmp (p := 4) (ty := 26) rfl _ _ (w.heap.size + 1 + 1) 26 #[.int .i8 v.f, .int .i64 v.d, .int .i8 v.g, .int .i64 v.e] (0, 0) _ rfl (setRow_heap _ _ _ _ _ _ HR.1.heap) Tryz.underlying26 rfl infoRn) rfl ?_
     exact ⟨rfl, below_setRow HR.1.below HR.1.base _⟩
  ·clear hHeld
   go_simp
   have hbl := (Below.refl v1.heap.size v1).alloc (Nat.le_refl _) (.cells #[.int .i8 0, .int .i64 0, .int .i8 0, .int .i64 0] 26)
   have HX := Kp.mk (rl_new 0 0 0 0 HB.1.below)
   have NHXHR := Kp.mk HR.1.ne
   have NHXHA := Kp.mk HA.1.ne
   have NHXHC := Kp.mk HC.1.ne
   have HB := Kp.mk (HB.1.step hbl)
   have HA := Kp.mk (HA.1.step hbl)
   have HC := Kp.mk (HC.1.step hbl)
   have HR := Kp.mk (HR.1.step hbl)
   clear hbl
   generalize v1.alloc (.cells #[.int .i8 0, .int .i64 0, .int .i8 0, .int .i64 0] 26) = v5 at *
   generalize v1.heap.size = gHX at *
   refine hK.out _ _ ?_ (fun hHeld => ?_)
   ·exact ⟨HA.1.c0, HA.1.c1, HA.1.c2, HA.1.c3, HC.1.c0, HC.1.c1, HC.1.c2, HC.1.c3⟩
   clear hK K
   try simp only [pt]
   refine rd [9] ?_
   refine AllReadyH.cons (dropAt rfl) (fun K hK => ?_) AllReadyH.nil
   ·clear hHeld
    go_simp
    go_at_call 79
    with_reducible refine (r3.1 _ HB.1.below).mono ?_
    rintro e v6 ⟨rfl, hb⟩
    have HB := Kp.mk (HB.1.step hb)
    have HA := Kp.mk (HA.1.step hb)
    have HC := Kp.mk (HC.1.step hb)
    have HR := Kp.mk (HR.1.step hb)
    have HX := Kp.mk (HX.1.step hb)
    clear hb
    go_wp2_with fail
    refine hK.out _ _ ?_ (fun hHeld => ?_)
    ·exact ⟨HA.1.c0, HA.1.c1, HA.1.c2, HA.1.c3, HC.1.c0, HC.1.c1, HC.1.c2, HC.1.c3⟩
    clear hK K
    try simp only [pt]
    refine tk 10 ?_ rfl hHeld ?_ ?_
    rotate_left
    ·(intro w hSw; (try dsimp only at hSw); go_simp; try with_reducible rfl)
    try simp only [pt]
    refine rd [12] ?_
    refine AllReadyH.cons (dropAt rfl) (fun K hK => ?_) AllReadyH.nil
    ·clear hHeld
     have k0 : v6.cell? ⟨gHX, 0, none⟩ = some (.int .i8 0) := HX.1.c0
     have l0 := HX.1.frozen 0
     have k1 : v6.cell? ⟨gHX, 1, none⟩ = some (.int .i64 0) := HX.1.c1
     have l1 := HX.1.frozen 1
     have k2 : v6.cell? ⟨gHX, 2, none⟩ = some (.int .i8 0) := HX.1.c2
     have l2 := HX.1.frozen 2
     have k3 : v6.cell? ⟨gHX, 3, none⟩ = some (.int .i64 0) := HX.1.c3
     have l3 := HX.1.frozen 3
     go_simp
     clear k0 k1 k2 k3 l0 l1 l2 l3
     have bs0 := HX.1.base
     have HB : Kp (Bl w ((((v6.setCell ⟨gHX, 0, none⟩ (.int .i8 v.f)).setCell ⟨gHX, 1, none⟩ (.int .i64 v.d)).setCell ⟨gHX, 2, none⟩ (.int .i8 v.g)).setCell ⟨gHX, 3, none⟩ (.int .i64 v.e))) := Kp.mk (Bl.mk (below_setL HB.1.below bs0 v.f v.d v.g v.e))
     have HA : Kp (Rg w (w.heap.size) a ((((v6.setCell ⟨gHX, 0, none⟩ (.int .i8 v.f)).setCell ⟨gHX, 1, none⟩ (.int .i64 v.d)).setCell ⟨gHX, 2, none⟩ (.int .i8 v.g)).setCell ⟨gHX, 3, none⟩ (.int .i64 v.e))) := Kp.mk (HA.1.other (fun q => NHXHA.1 q.symm) bs0 v.f v.d v.g v.e)
     have HC : Kp (Rg w (w.heap.size + 1) b ((((v6.setCell ⟨gHX, 0, none⟩ (.int .i8 v.f)).setCell ⟨gHX, 1, none⟩ (.int .i64 v.d)).setCell ⟨gHX, 2, none⟩ (.int .i8 v.g)).setCell ⟨gHX, 3, none⟩ (.int .i64 v.e))) := Kp.mk (HC.1.other (fun q => NHXHC.1 q.symm) bs0 v.f v.d v.g v.e)
     have HR : Kp (Rl w (w.heap.size + 1 + 1) 0 0 0 0 ((((v6.setCell ⟨gHX, 0, none⟩ (.int .i8 v.f)).setCell ⟨gHX, 1, none⟩ (.int .i64 v.d)).setCell ⟨gHX, 2, none⟩ (.int .i8 v.g)).setCell ⟨gHX, 3, none⟩ (.int .i64 v.e))) := Kp.mk (HR.1.other (fun q => NHXHR.1 q.symm) bs0 v.f v.d v.g v.e)
     have HX : Kp (Rl w gHX v.f v.d v.g v.e ((((v6.setCell ⟨gHX, 0, none⟩ (.int .i8 v.f)).setCell ⟨gHX, 1, none⟩ (.int .i64 v.d)).setCell ⟨gHX, 2, none⟩ (.int .i8 v.g)).setCell ⟨gHX, 3, none⟩ (.int .i64 v.e))) := Kp.mk (HX.1.fill v.f v.d v.g v.e)
     clear bs0
     generalize ((((v6.setCell ⟨gHX, 0, none⟩ (.int .i8 v.f)).setCell ⟨gHX, 1, none⟩ (.int .i64 v.d)).setCell ⟨gHX, 2, none⟩ (.int .i8 v.g)).setCell ⟨gHX, 3, none⟩ (.int .i64 v.e)) = v7 at *
     refine hK.out _ _ ?_ (fun hHeld => ?_)
     ·exact ⟨HA.1.c0, HA.1.c1, HA.1.c2, HA.1.c3, HC.1.c0, HC.1.c1, HC.1.c2, HC.1.c3⟩
     clear hK K
     try simp only [pt]
     refine wpAnyH_done (by kernel_rfl) ?_ _
     clear hHeld
     clear NHRHA NHRHC
     obtain ⟨kx0, kx1, kx2, kx3⟩ := HX.1.cs
     go_wp2_with fail
     refine (r4.1 _ HB.1.below).mono ?_
     rintro e uE ⟨rfl, hbl⟩
     have HR := Kp.mk (HR.1.step hbl)
     have HX := Kp.mk (HX.1.step hbl)
     clear hbl kx0 kx1 kx2 kx3 HA HC HB
     obtain ⟨kx0, kx1, kx2, kx3⟩ := HX.1.cs
     go_wp2_with (first
      | refine wpList_store_row' rfl 26 (.tmp 4) (.tmp 30) rfl (w.heap.size + 1 + 1) #[.int .i8 v.f, .int .i64 v.d, .int .i8 v.g, .int .i64 v.e] rfl rfl 26 #[.int .i8 0, .int .i64 0, .int .i8 0, .int .i64 0] HR.1.heap infoRn rfl (four_rn _ _ _ _) ?_)
     refine bodyPost_ret (results_cell_tmp (p := 4) (ty := 26) rfl _ _ (w.heap.size + 1 + 1) 26 #[.int .i8 v.f, .int .i64 v.d, .int .i8 v.g, .int .i64 v.e] (0, 0) _ rfl (setRow_heap _ _ _ _ _ _ HR.1.heap) Tryz.underlying26 rfl infoRn) rfl ?_
     exact ⟨rfl, below_setRow HR.1.below HR.1.base _⟩
 ·clear hHeld
  go_simp
  have hbl := (Below.refl vz.heap.size vz).alloc (Nat.le_refl _) (.cells #[.int .i8 0, .int .i64 0, .int .i8 0, .int .i64 0] 26)
  have HX := Kp.mk (rl_new 0 0 0 0 HB.1.below)
  have NHXHR := Kp.mk HR.1.ne
  have NHXHA := Kp.mk HA.1.ne
  have NHXHC := Kp.mk HC.1.ne
  have HB := Kp.mk (HB.1.step hbl)
  have HA := Kp.mk (HA.1.step hbl)
  have HC := Kp.mk (HC.1.step hbl)
  have HR := Kp.mk (HR.1.step hbl)
  clear hbl
  generalize vz.alloc (.cells #[.int .i8 0, .int .i64 0, .int .i8 0, .int .i64 0] 26) = v8 at *
  generalize vz.heap.size = gHX at *
  refine hK.out _ _ ?_ (fun hHeld => ?_)
  ·exact ⟨HA.1.c0, HA.1.c1, HA.1.c2, HA.1.c3, HC.1.c0, HC.1.c1, HC.1.c2, HC.1.c3⟩
  clear hK K
  try simp only [pt]
  refine rd [4] ?_
  refine AllReadyH.cons (dropAt rfl) (fun K hK => ?_) AllReadyH.nil
  ·clear hHeld
   go_simp
   go_at_call 80
   with_reducible refine (r2.1 _ HB.1.below).mono ?_
   rintro e v9 ⟨rfl, hb⟩
   have HB := Kp.mk (HB.1.step hb)
   have HA := Kp.mk (HA.1.step hb)
   have HC := Kp.mk (HC.1.step hb)
   have HR := Kp.mk (HR.1.step hb)
   have HX := Kp.mk (HX.1.step hb)
   clear hb
   go_wp2_with fail
   refine hK.out _ _ ?_ (fun hHeld => ?_)
   ·exact ⟨HA.1.c0, HA.1.c1, HA.1.c2, HA.1.c3, HC.1.c0, HC.1.c1, HC.1.c2, HC.1.c3⟩
   clear hK K
   try simp only [pt]
   refine rd [9] ?_
   refine AllReadyH.cons (dropAt rfl) (fun K hK => ?_) AllReadyH.nil
   ·clear hHeld
    go_simp
    go_at_call 79
    with_reducible refine (r3.1 _ HB.1.below).mono ?_
    rintro e v10 ⟨rfl, hb⟩
    have HB := Kp.mk (HB.1.step hb)
    have HA := Kp.mk (HA.1.step hb)
    have HC := Kp.mk (HC.1.step hb)
    have HR := Kp.mk (HR.1.step hb)
    have HX := Kp.mk (HX.1.step hb)
    clear hb
    go_wp2_with fail
    refine hK.out _ _ ?_ (fun hHeld => ?_)
    ·exact ⟨HA.1.c0, HA.1.c1, HA.1.c2, HA.1.c3, HC.1.c0, HC.1.c1, HC.1.c2, HC.1.c3⟩
    clear hK K
    try simp only [pt]
    refine tk 10 ?_ rfl hHeld ?_ ?_
    rotate_left
    ·(intro w hSw; (try dsimp only at hSw); go_simp; try with_reducible rfl)
    try simp only [pt]
    refine rd [12] ?_
    refine AllReadyH.cons (dropAt rfl) (fun K hK => ?_) AllReadyH.nil
    ·clear hHeld
     have k0 : v10.cell? ⟨gHX, 0, none⟩ = some (.int .i8 0) := HX.1.c0
     have l0 := HX.1.frozen 0
     have k1 : v10.cell? ⟨gHX, 1, none⟩ = some (.int .i64 0) := HX.1.c1
     have l1 := HX.1.frozen 1
     have k2 : v10.cell? ⟨gHX, 2, none⟩ = some (.int .i8 0) := HX.1.c2
     have l2 := HX.1.frozen 2
     have k3 : v10.cell? ⟨gHX, 3, none⟩ = some (.int .i64 0) := HX.1.c3
     have l3 := HX.1.frozen 3
     go_simp
     clear k0 k1 k2 k3 l0 l1 l2 l3
     have bs0 := HX.1.base
     have HB : Kp (Bl w ((((v10.setCell ⟨gHX, 0, none⟩ (.int .i8 v.f)).setCell ⟨gHX, 1, none⟩ (.int .i64 v.d)).setCell ⟨gHX, 2, none⟩ (.int .i8 v.g)).setCell ⟨gHX, 3, none⟩ (.int .i64 v.e))) := Kp.mk (Bl.mk (below_setL HB.1.below bs0 v.f v.d v.g v.e))
     have HA : Kp (Rg w (w.heap.size) a ((((v10.setCell ⟨gHX, 0, none⟩ (.int .i8 v.f)).setCell ⟨gHX, 1, none⟩ (.int .i64 v.d)).setCell ⟨gHX, 2, none⟩ (.int .i8 v.g)).setCell ⟨gHX, 3, none⟩ (.int .i64 v.e))) := Kp.mk (HA.1.other (fun q => NHXHA.1 q.symm) bs0 v.f v.d v.g v.e)
     have HC : Kp (Rg w (w.heap.size + 1) b ((((v10.setCell ⟨gHX, 0, none⟩ (.int .i8 v.f)).setCell ⟨gHX, 1, none⟩ (.int .i64 v.d)).setCell ⟨gHX, 2, none⟩ (.int .i8 v.g)).setCell ⟨gHX, 3, none⟩ (.int .i64 v.e))) := Kp.mk (HC.1.other (fun q => NHXHC.1 q.symm) bs0 v.f v.d v.g v.e)
     have HR : Kp (Rl w (w.heap.size + 1 + 1) 0 0 0 0 ((((v10.setCell ⟨gHX, 0, none⟩ (.int .i8 v.f)).setCell ⟨gHX, 1, none⟩ (.int .i64 v.d)).setCell ⟨gHX, 2, none⟩ (.int .i8 v.g)).setCell ⟨gHX, 3, none⟩ (.int .i64 v.e))) := Kp.mk (HR.1.other (fun q => NHXHR.1 q.symm) bs0 v.f v.d v.g v.e)
     have HX : Kp (Rl w gHX v.f v.d v.g v.e ((((v10.setCell ⟨gHX, 0, none⟩ (.int .i8 v.f)).setCell ⟨gHX, 1, none⟩ (.int .i64 v.d)).setCell ⟨gHX, 2, none⟩ (.int .i8 v.g)).setCell ⟨gHX, 3, none⟩ (.int .i64 v.e))) := Kp.mk (HX.1.fill v.f v.d v.g v.e)
     clear bs0
     generalize ((((v10.setCell ⟨gHX, 0, none⟩ (.int .i8 v.f)).setCell ⟨gHX, 1, none⟩ (.int .i64 v.d)).setCell ⟨gHX, 2, none⟩ (.int .i8 v.g)).setCell ⟨gHX, 3, none⟩ (.int .i64 v.e)) = v11 at *
     refine hK.out _ _ ?_ (fun hHeld => ?_)
     ·exact ⟨HA.1.c0, HA.1.c1, HA.1.c2, HA.1.c3, HC.1.c0, HC.1.c1, HC.1.c2, HC.1.c3⟩
     clear hK K
     try simp only [pt]
     refine wpAnyH_done (by kernel_rfl) ?_ _
     clear hHeld
     clear NHRHA NHRHC
     obtain ⟨kx0, kx1, kx2, kx3⟩ := HX.1.cs
     go_wp2_with fail
     refine (r4.1 _ HB.1.below).mono ?_
     rintro e uE ⟨rfl, hbl⟩
     have HR := Kp.mk (HR.1.step hbl)
     have HX := Kp.mk (HX.1.step hbl)
     clear hbl kx0 kx1 kx2 kx3 HA HC HB
     obtain ⟨kx0, kx1, kx2, kx3⟩ := HX.1.cs
     go_wp2_with (first
      | refine wpList_store_row' rfl 26 (.tmp 4) (.tmp 30) rfl (w.heap.size + 1 + 1) #[.int .i8 v.f, .int .i64 v.d, .int .i8 v.g, .int .i64 v.e] rfl rfl 26 #[.int .i8 0, .int .i64 0, .int .i8 0, .int .i64 0] HR.1.heap infoRn rfl (four_rn _ _ _ _) ?_)
     refine bodyPost_ret (results_cell_tmp (p := 4) (ty := 26) rfl _ _ (w.heap.size + 1 + 1) 26 #[.int .i8 v.f, .int .i64 v.d, .int .i8 v.g, .int .i64 v.e] (0, 0) _ rfl (setRow_heap _ _ _ _ _ _ HR.1.heap) Tryz.underlying26 rfl infoRn) rfl ?_
     exact ⟨rfl, below_setRow HR.1.below HR.1.base _⟩
set_option maxHeartbeats 8000000 in
theorem dComm_no {a b : Rn} (ha : a.In) (hb : b.In) (hm0 : meetN a b = false) (w : World) (hL : LaidEn w) :
 Calls Tryz.prog 21 #[.agg #[.int .i8 a.f, .int .i64 a.d, .int .i8 a.g, .int .i64 a.e], .agg #[.int .i8 b.f, .int .i64 b.d, .int .i8 b.g, .int .i64 b.e]] w fun x w' => x = .returned (.tuple #[.agg #[.int .i8 0, .int .i64 0, .int .i8 0, .int .i64 0], .bool false]) ∧ Below w.heap.size w w' := by
 obtain ⟨h1, h2, h3⟩ := rg_three w a b _ rfl
 have HA := Kp.mk h1
 have HC := Kp.mk h2
 have HR := Kp.mk h3
 have HB := Kp.mk (bl_of h1)
 clear h1 h2 h3
 have NHRHA : Kp (¬ w.heap.size + 1 + 1 = w.heap.size) := Kp.mk (by omega)
 have NHRHC : Kp (¬ w.heap.size + 1 + 1 = w.heap.size + 1) := Kp.mk (by omega)
 by_cases hc : chkR a = 0 ∧ chkR b = 0
 ·obtain ⟨c1, c2⟩ := hc
  obtain ⟨v, hv⟩ : ∃ v, commN a b = v := ⟨_, rfl⟩
  obtain ⟨q0, q1, q2, q3⟩ := commN_f hv
  obtain ⟨hi, hm⟩ := comm_q ha hb c1 c2 hv
  have r1 : Kp (∀ u, Below w.heap.size w u → Calls Tryz.prog 81 #[rv a, rv b] u fun e w' => e = .returned (.bool true) ∧ Below u.heap.size u w') := Kp.mk (fun u hw => dAre_is ha hb (decide_eq_true ⟨c1, c2⟩) u (hL.below hw))
  have r2 : Kp (∀ u, Below w.heap.size w u → Calls Tryz.prog 80 #[.agg #[.int .i8 a.f, .int .i64 a.d], .agg #[.int .i8 b.f, .int .i64 b.d]] u fun e w' => e = .returned (.agg #[.int .i8 v.f, .int .i64 v.d]) ∧ Below u.heap.size u w') := Kp.mk (fun u hw => dMax_is ha.d0 ha.d1 hb.d0 hb.d1 q0 q1 u (hL.below hw))
  have r3 : Kp (∀ u, Below w.heap.size w u → Calls Tryz.prog 79 #[.agg #[.int .i8 a.g, .int .i64 a.e], .agg #[.int .i8 b.g, .int .i64 b.e]] u fun e w' => e = .returned (.agg #[.int .i8 v.g, .int .i64 v.e]) ∧ Below u.heap.size u w') := Kp.mk (fun u hw => dMin_is ha.e0 ha.e1 hb.e0 hb.e1 q2 q3 u (hL.below hw))
  obtain ⟨q, hq⟩ : ∃ q, cmpE v.f v.d v.g v.e = q := ⟨_, rfl⟩
  have r4 : Kp (∀ u, Below w.heap.size w u → Calls Tryz.prog 75 #[.agg #[.int .i8 v.f, .int .i64 v.d], .agg #[.int .i8 v.g, .int .i64 v.e]] u fun e w' => e = .returned (.int .i64 q) ∧ Below u.heap.size u w') := Kp.mk (fun u hw => endCoreN.cmp u (hL.below hw) hi.d0 hi.d1 hi.e0 hi.e1 hq)
  rw [hq] at hm
  have t : 0 < q := hm.2 hm0
  clear ha hb hm0 hv hL q0 q1 q2 q3 hm hq hi c1 c2
  go_enter Tryz.func21, Tryz.ntmps21
  go_upto_region 1 with fail
  generalize ((w.alloc (.cells #[.int .i8 a.f, .int .i64 a.d, .int .i8 a.g, .int .i64 a.e] 26)).alloc (.cells #[.int .i8 b.f, .int .i64 b.d, .int .i8 b.g, .int .i64 b.e] 26)).alloc (.cells #[.int .i8 0, .int .i64 0, .int .i8 0, .int .i64 0] 26) = w0 at *
  obtain ⟨kHA0, kHA1, kHA2, kHA3⟩ := HA.1.cs
  obtain ⟨kHC0, kHC1, kHC2, kHC3⟩ := HC.1.cs
  go_wp2_with fail
  refine (r1.1 _ HB.1.below).mono ?_
  rintro e u1 ⟨rfl, hbl⟩
  clear kHA0 kHA1 kHA2 kHA3 kHC0 kHC1 kHC2 kHC3
  have HB := Kp.mk (HB.1.step hbl)
  have HA := Kp.mk (HA.1.step hbl)
  have HC := Kp.mk (HC.1.step hbl)
  have HR := Kp.mk (HR.1.step hbl)
  clear hbl
  obtain ⟨kHA0, kHA1, kHA2, kHA3⟩ := HA.1.cs
  obtain ⟨kHC0, kHC1, kHC2, kHC3⟩ := HC.1.cs
  go_upto_region 3 with fail
  clear kHA0 kHA1 kHA2 kHA3 kHC0 kHC1 kHC2 kHC3
  have hd := (Below.refl u1.heap.size u1).drew
  have HB := Kp.mk (HB.1.step hd)
  have HA := Kp.mk (HA.1.step hd)
  have HC := Kp.mk (HC.1.step hd)
  have HR := Kp.mk (HR.1.step hd)
  clear hd
  refine wp_region_held_drew (S := fun w' => w'.cell? ⟨w.heap.size, 0, none⟩ = some (.int .i8 a.f) ∧ w'.cell? ⟨w.heap.size, 1, none⟩ = some (.int .i64 a.d) ∧ w'.cell? ⟨w.heap.size, 2, none⟩ = some (.int .i8 a.g) ∧ w'.cell? ⟨w.heap.size, 3, none⟩ = some (.int .i64 a.e) ∧ w'.cell? ⟨w.heap.size + 1, 0, none⟩ = some (.int .i8 b.f) ∧ w'.cell? ⟨w.heap.size + 1, 1, none⟩ = some (.int .i64 b.d) ∧ w'.cell? ⟨w.heap.size + 1, 2, none⟩ = some (.int .i8 b.g) ∧ w'.cell? ⟨w.heap.size + 1, 3, none⟩ = some (.int .i64 b.e)) (by kernel_rfl) ?_ (fun hHeld => ?_)
  ·exact ⟨HA.1.c0, HA.1.c1, HA.1.c2, HA.1.c3, HC.1.c0, HC.1.c1, HC.1.c2, HC.1.c3⟩
  generalize u1.drew = vz at *
  refine tk 0 ?_ rfl hHeld ?_ ?_
  rotate_left
  ·(intro w hSw; (try dsimp only at hSw); go_simp; try with_reducible rfl)
  try simp only [pt]
  refine tk 1 ?_ rfl hHeld ?_ ?_
  rotate_left
  ·(intro w hSw; (try dsimp only at hSw); go_simp; try with_reducible rfl)
  try simp only [pt]
  refine tk 2 ?_ rfl hHeld ?_ ?_
  rotate_left
  ·(intro w hSw; (try dsimp only at hSw); go_simp; try with_reducible rfl)
  try simp only [pt]
  refine tk 3 ?_ rfl hHeld ?_ ?_
  rotate_left
  ·(intro w hSw; (try dsimp only at hSw); go_simp; try with_reducible rfl)
  try simp only [pt]
  refine tk 5 ?_ rfl hHeld ?_ ?_
  rotate_left
  ·(intro w hSw; (try dsimp only at hSw); go_simp; try with_reducible rfl)
  try simp only [pt]
  refine tk 6 ?_ rfl hHeld ?_ ?_
  rotate_left
  ·(intro w hSw; (try dsimp only at hSw); go_simp; try with_reducible rfl)
  try simp only [pt]
  refine tk 7 ?_ rfl hHeld ?_ ?_
  rotate_left
  ·(intro w hSw; (try dsimp only at hSw); go_simp; try with_reducible rfl)
  try simp only [pt]
  refine tk 8 ?_ rfl hHeld ?_ ?_
  rotate_left
  ·(intro w hSw; (try dsimp only at hSw); go_simp; try with_reducible rfl)
  try simp only [pt]
  refine rd [4, 11] ?_
  refine AllReadyH.cons (dropAt rfl) (fun K hK => ?_) (AllReadyH.cons (dropAt rfl) (fun K hK => ?_) AllReadyH.nil)
  ·clear hHeld
   go_simp
   go_at_call 80
   with_reducible refine (r2.1 _ HB.1.below).mono ?_
   rintro e v1 ⟨rfl, hb⟩
   have HB := Kp.mk (HB.1.step hb)
   have HA := Kp.mk (HA.1.step hb)
   have HC := Kp.mk (HC.1.step hb)
   have HR := Kp.mk (HR.1.step hb)
   clear hb
   go_wp2_with fail
   refine hK.out _ _ ?_ (fun hHeld => ?_)
   ·exact ⟨HA.1.c0, HA.1.c1, HA.1.c2, HA.1.c3, HC.1.c0, HC.1.c1, HC.1.c2, HC.1.c3⟩
   clear hK K
   try simp only [pt]
   refine rd [9, 11] ?_
   refine AllReadyH.cons (dropAt rfl) (fun K hK => ?_) (AllReadyH.cons (dropAt rfl) (fun K hK => ?_) AllReadyH.nil)
   ·clear hHeld
    go_simp
    go_at_call 79
    with_reducible refine (r3.1 _ HB.1.below).mono ?_
    rintro e v2 ⟨rfl, hb⟩
    have HB := Kp.mk (HB.1.step hb)
    have HA := Kp.mk (HA.1.step hb)
    have HC := Kp.mk (HC.1.step hb)
    have HR := Kp.mk (HR.1.step hb)
    clear hb
    go_wp2_with fail
    refine hK.out _ _ ?_ (fun hHeld => ?_)
    ·exact ⟨HA.1.c0, HA.1.c1, HA.1.c2, HA.1.c3, HC.1.c0, HC.1.c1, HC.1.c2, HC.1.c3⟩
    clear hK K
    try simp only [pt]
    refine tk 10 ?_ rfl hHeld ?_ ?_
    rotate_left
    ·(intro w hSw; (try dsimp only at hSw); go_simp; try with_reducible rfl)
    try simp only [pt]
    refine rd [11] ?_
    refine AllReadyH.cons (dropAt rfl) (fun K hK => ?_) AllReadyH.nil
    ·clear hHeld
     go_simp
     have hbl := (Below.refl v2.heap.size v2).alloc (Nat.le_refl _) (.cells #[.int .i8 0, .int .i64 0, .int .i8 0, .int .i64 0] 26)
     have HX := Kp.mk (rl_new 0 0 0 0 HB.1.below)
     have NHXHR := Kp.mk HR.1.ne
     have NHXHA := Kp.mk HA.1.ne
     have NHXHC := Kp.mk HC.1.ne
     have HB := Kp.mk (HB.1.step hbl)
     have HA := Kp.mk (HA.1.step hbl)
     have HC := Kp.mk (HC.1.step hbl)
     have HR := Kp.mk (HR.1.step hbl)
     clear hbl
     generalize v2.alloc (.cells #[.int .i8 0, .int .i64 0, .int .i8 0, .int .i64 0] 26) = v3 at *
     generalize v2.heap.size = gHX at *
     refine hK.out _ _ ?_ (fun hHeld => ?_)
     ·exact ⟨HA.1.c0, HA.1.c1, HA.1.c2, HA.1.c3, HC.1.c0, HC.1.c1, HC.1.c2, HC.1.c3⟩
     clear hK K
     try simp only [pt]
     refine rd [12] ?_
     refine AllReadyH.cons (dropAt rfl) (fun K hK => ?_) AllReadyH.nil
     ·clear hHeld
      have k0 : v3.cell? ⟨gHX, 0, none⟩ = some (.int .i8 0) := HX.1.c0
      have l0 := HX.1.frozen 0
      have k1 : v3.cell? ⟨gHX, 1, none⟩ = some (.int .i64 0) := HX.1.c1
      have l1 := HX.1.frozen 1
      have k2 : v3.cell? ⟨gHX, 2, none⟩ = some (.int .i8 0) := HX.1.c2
      have l2 := HX.1.frozen 2
      have k3 : v3.cell? ⟨gHX, 3, none⟩ = some (.int .i64 0) := HX.1.c3
      have l3 := HX.1.frozen 3
      go_simp
      clear k0 k1 k2 k3 l0 l1 l2 l3
      have bs0 := HX.1.base
      have HB : Kp (Bl w ((((v3.setCell ⟨gHX, 0, none⟩ (.int .i8 v.f)).setCell ⟨gHX, 1, none⟩ (.int .i64 v.d)).setCell ⟨gHX, 2, none⟩ (.int .i8 v.g)).setCell ⟨gHX, 3, none⟩ (.int .i64 v.e))) := Kp.mk (Bl.mk (below_setL HB.1.below bs0 v.f v.d v.g v.e))
      have HA : Kp (Rg w (w.heap.size) a ((((v3.setCell ⟨gHX, 0, none⟩ (.int .i8 v.f)).setCell ⟨gHX, 1, none⟩ (.int .i64 v.d)).setCell ⟨gHX, 2, none⟩ (.int .i8 v.g)).setCell ⟨gHX, 3, none⟩ (.int .i64 v.e))) := Kp.mk (HA.1.other (fun q => NHXHA.1 q.symm) bs0 v.f v.d v.g v.e)
      have HC : Kp (Rg w (w.heap.size + 1) b ((((v3.setCell ⟨gHX, 0, none⟩ (.int .i8 v.f)).setCell ⟨gHX, 1, none⟩ (.int .i64 v.d)).setCell ⟨gHX, 2, none⟩ (.int .i8 v.g)).setCell ⟨gHX, 3, none⟩ (.int .i64 v.e))) := Kp.mk (HC.1.other (fun q => NHXHC.1 q.symm) bs0 v.f v.d v.g v.e)
      have HR : Kp (Rl w (w.heap.size + 1 + 1) 0 0 0 0 ((((v3.setCell ⟨gHX, 0, none⟩ (.int .i8 v.f)).setCell ⟨gHX, 1, none⟩ (.int .i64 v.d)).setCell ⟨gHX, 2, none⟩ (.int .i8 v.g)).setCell ⟨gHX, 3, none⟩ (.int .i64 v.e))) := Kp.mk (HR.1.other (fun q => NHXHR.1 q.symm) bs0 v.f v.d v.g v.e)
      have HX : Kp (Rl w gHX v.f v.d v.g v.e ((((v3.setCell ⟨gHX, 0, none⟩ (.int .i8 v.f)).setCell ⟨gHX, 1, none⟩ (.int .i64 v.d)).setCell ⟨gHX, 2, none⟩ (.int .i8 v.g)).setCell ⟨gHX, 3, none⟩ (.int .i64 v.e))) := Kp.mk (HX.1.fill v.f v.d v.g v.e)
      clear bs0
      generalize ((((v3.setCell ⟨gHX, 0, none⟩ (.int .i8 v.f)).setCell ⟨gHX, 1, none⟩ (.int .i64 v.d)).setCell ⟨gHX, 2, none⟩ (.int .i8 v.g)).setCell ⟨gHX, 3, none⟩ (.int .i64 v.e)) = v4 at *
      refine hK.out _ _ ?_ (fun hHeld => ?_)
      ·exact ⟨HA.1.c0, HA.1.c1, HA.1.c2, HA.1.c3, HC.1.c0, HC.1.c1, HC.1.c2, HC.1.c3⟩
      clear hK K
      try simp only [pt]
      refine wpAnyH_done (by kernel_rfl) ?_ _
      clear hHeld
      clear NHRHA NHRHC
      obtain ⟨kx0, kx1, kx2, kx3⟩ := HX.1.cs
      go_wp2_with fail
      refine (r4.1 _ HB.1.below).mono ?_
      rintro e uE ⟨rfl, hbl⟩
      have HR := Kp.mk (HR.1.step hbl)
      have HX := Kp.mk (HX.1.step hbl)
      clear hbl kx0 kx1 kx2 kx3 HA HC HB
      obtain ⟨kx0, kx1, kx2, kx3⟩ := HX.1.cs
      go_wp2_with (first
       | refine wpList_store_row' rfl 26 (.tmp 4) (.tmp 29) rfl (w.heap.size + 1 + 1) #[.int .i8 0, .int .i64 0, .int .i8 0, .int .i64 0] rfl rfl 26 #[.int .i8 0, .int .i64 0, .int .i8 0, .int .i64 0] HR.1.heap infoRn rfl (four_rn _ _ _ _) ?_)
      refine bodyPost_ret (results_cell_tmp (p := 4) (ty := 26) rfl _ _ (w.heap.size + 1 + 1) 26 #[.int .i8 0, .int .i64 0, .int .i8 0, .int .i64 0] (0, 0) _ rfl (setRow_heap _ _ _ _ _ _ HR.1.heap) Tryz.underlying26 rfl infoRn) rfl ?_
      exact ⟨rfl, below_setRow HR.1.below HR.1.base _⟩
   ·clear hHeld
    go_simp
    have hbl := (Below.refl v1.heap.size v1).alloc (Nat.le_refl _) (.cells #[.int .i8 0, .int .i64 0, .int .i8 0, .int .i64 0] 26)
    have HX := Kp.mk (rl_new 0 0 0 0 HB.1.below)
    have NHXHR := Kp.mk HR.1.ne
    have NHXHA := Kp.mk HA.1.ne
    have NHXHC := Kp.mk HC.1.ne
    have HB := Kp.mk (HB.1.step hbl)
    have HA := Kp.mk (HA.1.step hbl)
    have HC := Kp.mk (HC.1.step hbl)
    have HR := Kp.mk (HR.1.step hbl)
    clear hbl
    generalize v1.alloc (.cells #[.int .i8 0, .int .i64 0, .int .i8 0, .int .i64 0] 26) = v5 at *
    generalize v1.heap.size = gHX at *
    refine hK.out _ _ ?_ (fun hHeld => ?_)
    ·exact ⟨HA.1.c0, HA.1.c1, HA.1.c2, HA.1.c3, HC.1.c0, HC.1.c1, HC.1.c2, HC.1.c3⟩
    clear hK K
    try simp only [pt]
    refine rd [9] ?_
    refine AllReadyH.cons (dropAt rfl) (fun K hK => ?_) AllReadyH.nil
    ·clear hHeld
     go_simp
     go_at_call 79
     with_reducible refine (r3.1 _ HB.1.below).mono ?_
     rintro e v6 ⟨rfl, hb⟩
     have HB := Kp.mk (HB.1.step hb)
     have HA := Kp.mk (HA.1.step hb)
     have HC := Kp.mk (HC.1.step hb)
     have HR := Kp.mk (HR.1.step hb)
     have HX := Kp.mk (HX.1.step hb)
     clear hb
     go_wp2_with fail
     refine hK.out _ _ ?_ (fun hHeld => ?_)
     ·exact ⟨HA.1.c0, HA.1.c1, HA.1.c2, HA.1.c3, HC.1.c0, HC.1.c1, HC.1.c2, HC.1.c3⟩
     clear hK K
     try simp only [pt]
     refine tk 10 ?_ rfl hHeld ?_ ?_
     rotate_left
     ·(intro w hSw; (try dsimp only at hSw); go_simp; try with_reducible rfl)
     try simp only [pt]
     refine rd [12] ?_
     refine AllReadyH.cons (dropAt rfl) (fun K hK => ?_) AllReadyH.nil
     ·clear hHeld
      have k0 : v6.cell? ⟨gHX, 0, none⟩ = some (.int .i8 0) := HX.1.c0
      have l0 := HX.1.frozen 0
      have k1 : v6.cell? ⟨gHX, 1, none⟩ = some (.int .i64 0) := HX.1.c1
      have l1 := HX.1.frozen 1
      have k2 : v6.cell? ⟨gHX, 2, none⟩ = some (.int .i8 0) := HX.1.c2
      have l2 := HX.1.frozen 2
      have k3 : v6.cell? ⟨gHX, 3, none⟩ = some (.int .i64 0) := HX.1.c3
      have l3 := HX.1.frozen 3
      go_simp
      clear k0 k1 k2 k3 l0 l1 l2 l3
      have bs0 := HX.1.base
      have HB : Kp (Bl w ((((v6.setCell ⟨gHX, 0, none⟩ (.int .i8 v.f)).setCell ⟨gHX, 1, none⟩ (.int .i64 v.d)).setCell ⟨gHX, 2, none⟩ (.int .i8 v.g)).setCell ⟨gHX, 3, none⟩ (.int .i64 v.e))) := Kp.mk (Bl.mk (below_setL HB.1.below bs0 v.f v.d v.g v.e))
      have HA : Kp (Rg w (w.heap.size) a ((((v6.setCell ⟨gHX, 0, none⟩ (.int .i8 v.f)).setCell ⟨gHX, 1, none⟩ (.int .i64 v.d)).setCell ⟨gHX, 2, none⟩ (.int .i8 v.g)).setCell ⟨gHX, 3, none⟩ (.int .i64 v.e))) := Kp.mk (HA.1.other (fun q => NHXHA.1 q.symm) bs0 v.f v.d v.g v.e)
      have HC : Kp (Rg w (w.heap.size + 1) b ((((v6.setCell ⟨gHX, 0, none⟩ (.int .i8 v.f)).setCell ⟨gHX, 1, none⟩ (.int .i64 v.d)).setCell ⟨gHX, 2, none⟩ (.int .i8 v.g)).setCell ⟨gHX, 3, none⟩ (.int .i64 v.e))) := Kp.mk (HC.1.other (fun q => NHXHC.1 q.symm) bs0 v.f v.d v.g v.e)
      have HR : Kp (Rl w (w.heap.size + 1 + 1) 0 0 0 0 ((((v6.setCell ⟨gHX, 0, none⟩ (.int .i8 v.f)).setCell ⟨gHX, 1, none⟩ (.int .i64 v.d)).setCell ⟨gHX, 2, none⟩ (.int .i8 v.g)).setCell ⟨gHX, 3, none⟩ (.int .i64 v.e))) := Kp.mk (HR.1.other (fun q => NHXHR.1 q.symm) bs0 v.f v.d v.g v.e)
      have HX : Kp (Rl w gHX v.f v.d v.g v.e ((((v6.setCell ⟨gHX, 0, none⟩ (.int .i8 v.f)).setCell ⟨gHX, 1, none⟩ (.int .i64 v.d)).setCell ⟨gHX, 2, none⟩ (.int .i8 v.g)).setCell ⟨gHX, 3, none⟩ (.int .i64 v.e))) := Kp.mk (HX.1.fill v.f v.d v.g v.e)
      clear bs0
      generalize ((((v6.setCell ⟨gHX, 0, none⟩ (.int .i8 v.f)).setCell ⟨gHX, 1, none⟩ (.int .i64 v.d)).setCell ⟨gHX, 2, none⟩ (.int .i8 v.g)).setCell ⟨gHX, 3, none⟩ (.int .i64 v.e)) = v7 at *
      refine hK.out _ _ ?_ (fun hHeld => ?_)
      ·exact ⟨HA.1.c0, HA.1.c1, HA.1.c2, HA.1.c3, HC.1.c0, HC.1.c1, HC.1.c2, HC.1.c3⟩
      clear hK K
      try simp only [pt]
      refine wpAnyH_done (by kernel_rfl) ?_ _
      clear hHeld
      clear NHRHA NHRHC
      obtain ⟨kx0, kx1, kx2, kx3⟩ := HX.1.cs
      go_wp2_with fail
      refine (r4.1 _ HB.1.below).mono ?_
      rintro e uE ⟨rfl, hbl⟩
      have HR := Kp.mk (HR.1.step hbl)
      have HX := Kp.mk (HX.1.step hbl)
      clear hbl kx0 kx1 kx2 kx3 HA HC HB
      obtain ⟨kx0, kx1, kx2, kx3⟩ := HX.1.cs
      go_wp2_with (first
       | refine wpList_store_row' rfl 26 (.tmp 4) (.tmp 29) rfl (w.heap.size + 1 + 1) #[.int .i8 0, .int .i64 0, .int .i8 0, .int .i64 0] rfl rfl 26 #[.int .i8 0, .int .i64 0, .int .i8 0, .int .i64 0] HR.1.heap infoRn rfl (four_rn _ _ _ _) ?_)
      refine bodyPost_ret (results_cell_tmp (p := 4) (ty := 26) rfl _ _ (w.heap.size + 1 + 1) 26 #[.int .i8 0, .int .i64 0, .int .i8 0, .int .i64 0] (0, 0) _ rfl (setRow_heap _ _ _ _ _ _ HR.1.heap) Tryz.underlying26 rfl infoRn) rfl ?_
      exact ⟨rfl, below_setRow HR.1.below HR.1.base _⟩
  ·clear hHeld
   go_simp
   have hbl := (Below.refl vz.heap.size vz).alloc (Nat.le_refl _) (.cells #[.int .i8 0, .int .i64 0, .int .i8 0, .int .i64 0] 26)
   have HX := Kp.mk (rl_new 0 0 0 0 HB.1.below)
   have NHXHR := Kp.mk HR.1.ne
   have NHXHA := Kp.mk HA.1.ne
   have NHXHC := Kp.mk HC.1.ne
   have HB := Kp.mk (HB.1.step hbl)
   have HA := Kp.mk (HA.1.step hbl)
   have HC := Kp.mk (HC.1.step hbl)
   have HR := Kp.mk (HR.1.step hbl)
   clear hbl
   generalize vz.alloc (.cells #[.int .i8 0, .int .i64 0, .int .i8 0, .int .i64 0] 26) = v8 at *
   generalize vz.heap.size = gHX at *
   refine hK.out _ _ ?_ (fun hHeld => ?_)
   ·exact ⟨HA.1.c0, HA.1.c1, HA.1.c2, HA.1.c3, HC.1.c0, HC.1.c1, HC.1.c2, HC.1.c3⟩
   clear hK K
   try simp only [pt]
   refine rd [4] ?_
   refine AllReadyH.cons (dropAt rfl) (fun K hK => ?_) AllReadyH.nil
   ·clear hHeld
    go_simp
    go_at_call 80
    with_reducible refine (r2.1 _ HB.1.below).mono ?_
    rintro e v9 ⟨rfl, hb⟩
    have HB := Kp.mk (HB.1.step hb)
    have HA := Kp.mk (HA.1.step hb)
    have HC := Kp.mk (HC.1.step hb)
    have HR := Kp.mk (HR.1.step hb)
    have HX := Kp.mk (HX.1.step hb)
    clear hb
    go_wp2_with fail
    refine hK.out _ _ ?_ (fun hHeld => ?_)
    ·exact ⟨HA.1.c0, HA.1.c1, HA.1.c2, HA.1.c3, HC.1.c0, HC.1.c1, HC.1.c2, HC.1.c3⟩
    clear hK K
    try simp only [pt]
    refine rd [9] ?_
    refine AllReadyH.cons (dropAt rfl) (fun K hK => ?_) AllReadyH.nil
    ·clear hHeld
     go_simp
     go_at_call 79
     with_reducible refine (r3.1 _ HB.1.below).mono ?_
     rintro e v10 ⟨rfl, hb⟩
     have HB := Kp.mk (HB.1.step hb)
     have HA := Kp.mk (HA.1.step hb)
     have HC := Kp.mk (HC.1.step hb)
     have HR := Kp.mk (HR.1.step hb)
     have HX := Kp.mk (HX.1.step hb)
     clear hb
     go_wp2_with fail
     refine hK.out _ _ ?_ (fun hHeld => ?_)
     ·exact ⟨HA.1.c0, HA.1.c1, HA.1.c2, HA.1.c3, HC.1.c0, HC.1.c1, HC.1.c2, HC.1.c3⟩
     clear hK K
     try simp only [pt]
     refine tk 10 ?_ rfl hHeld ?_ ?_
     rotate_left
     ·(intro w hSw; (try dsimp only at hSw); go_simp; try with_reducible rfl)
     try simp only [pt]
     refine rd [12] ?_
     refine AllReadyH.cons (dropAt rfl) (fun K hK => ?_) AllReadyH.nil
     ·clear hHeld
      have k0 : v10.cell? ⟨gHX, 0, none⟩ = some (.int .i8 0) := HX.1.c0
      have l0 := HX.1.frozen 0
      have k1 : v10.cell? ⟨gHX, 1, none⟩ = some (.int .i64 0) := HX.1.c1
      have l1 := HX.1.frozen 1
      have k2 : v10.cell? ⟨gHX, 2, none⟩ = some (.int .i8 0) := HX.1.c2
      have l2 := HX.1.frozen 2
      have k3 : v10.cell? ⟨gHX, 3, none⟩ = some (.int .i64 0) := HX.1.c3
      have l3 := HX.1.frozen 3
      go_simp
      clear k0 k1 k2 k3 l0 l1 l2 l3
      have bs0 := HX.1.base
      have HB : Kp (Bl w ((((v10.setCell ⟨gHX, 0, none⟩ (.int .i8 v.f)).setCell ⟨gHX, 1, none⟩ (.int .i64 v.d)).setCell ⟨gHX, 2, none⟩ (.int .i8 v.g)).setCell ⟨gHX, 3, none⟩ (.int .i64 v.e))) := Kp.mk (Bl.mk (below_setL HB.1.below bs0 v.f v.d v.g v.e))
      have HA : Kp (Rg w (w.heap.size) a ((((v10.setCell ⟨gHX, 0, none⟩ (.int .i8 v.f)).setCell ⟨gHX, 1, none⟩ (.int .i64 v.d)).setCell ⟨gHX, 2, none⟩ (.int .i8 v.g)).setCell ⟨gHX, 3, none⟩ (.int .i64 v.e))) := Kp.mk (HA.1.other (fun q => NHXHA.1 q.symm) bs0 v.f v.d v.g v.e)
      have HC : Kp (Rg w (w.heap.size + 1) b ((((v10.setCell ⟨gHX, 0, none⟩ (.int .i8 v.f)).setCell ⟨gHX, 1, none⟩ (.int .i64 v.d)).setCell ⟨gHX, 2, none⟩ (.int .i8 v.g)).setCell ⟨gHX, 3, none⟩ (.int .i64 v.e))) := Kp.mk (HC.1.other (fun q => NHXHC.1 q.symm) bs0 v.f v.d v.g v.e)
      have HR : Kp (Rl w (w.heap.size + 1 + 1) 0 0 0 0 ((((v10.setCell ⟨gHX, 0, none⟩ (.int .i8 v.f)).setCell ⟨gHX, 1, none⟩ (.int .i64 v.d)).setCell ⟨gHX, 2, none⟩ (.int .i8 v.g)).setCell ⟨gHX, 3, none⟩ (.int .i64 v.e))) := Kp.mk (HR.1.other (fun q => NHXHR.1 q.symm) bs0 v.f v.d v.g v.e)
      have HX : Kp (Rl w gHX v.f v.d v.g v.e ((((v10.setCell ⟨gHX, 0, none⟩ (.int .i8 v.f)).setCell ⟨gHX, 1, none⟩ (.int .i64 v.d)).setCell ⟨gHX, 2, none⟩ (.int .i8 v.g)).setCell ⟨gHX, 3, none⟩ (.int .i64 v.e))) := Kp.mk (HX.1.fill v.f v.d v.g v.e)
      clear bs0
      generalize ((((v10.setCell ⟨gHX, 0, none⟩ (.int .i8 v.f)).setCell ⟨gHX, 1, none⟩ (.int .i64 v.d)).setCell ⟨gHX, 2, none⟩ (.int .i8 v.g)).setCell ⟨gHX, 3, none⟩ (.int .i64 v.e)) = v11 at *
      refine hK.out _ _ ?_ (fun hHeld => ?_)
      ·exact ⟨HA.1.c0, HA.1.c1, HA.1.c2, HA.1.c3, HC.1.c0, HC.1.c1, HC.1.c2, HC.1.c3⟩
      clear hK K
      try simp only [pt]
      refine wpAnyH_done (by kernel_rfl) ?_ _
      clear hHeld
      clear NHRHA NHRHC
      obtain ⟨kx0, kx1, kx2, kx3⟩ := HX.1.cs
      go_wp2_with fail
      refine (r4.1 _ HB.1.below).mono ?_
      rintro e uE ⟨rfl, hbl⟩
      have HR := Kp.mk (HR.1.step hbl)
      have HX := Kp.mk (HX.1.step hbl)
      clear hbl kx0 kx1 kx2 kx3 HA HC HB
      obtain ⟨kx0, kx1, kx2, kx3⟩ := HX.1.cs
      go_wp2_with (first
       | refine wpList_store_row' rfl 26 (.tmp 4) (.tmp 29) rfl (w.heap.size + 1 + 1) #[.int .i8 0, .int .i64 0, .int .i8 0, .int .i64 0] rfl rfl 26 #[.int .i8 0, .int .i64 0, .int .i8 0, .int .i64 0] HR.1.heap infoRn rfl (four_rn _ _ _ _) ?_)
      refine bodyPost_ret (results_cell_tmp (p := 4) (ty := 26) rfl _ _ (w.heap.size + 1 + 1) 26 #[.int .i8 0, .int .i64 0, .int .i8 0, .int .i64 0] (0, 0) _ rfl (setRow_heap _ _ _ _ _ _ HR.1.heap) Tryz.underlying26 rfl infoRn) rfl ?_
      exact ⟨rfl, below_setRow HR.1.below HR.1.base _⟩
 ·have r1 : Kp (∀ u, Below w.heap.size w u → Calls Tryz.prog 81 #[rv a, rv b] u fun e w' => e = .returned (.bool false) ∧ Below u.heap.size u w') := Kp.mk (fun u hw => dAre_is ha hb (decide_eq_false hc) u (hL.below hw))
  clear ha hb hm0 hL hc NHRHA NHRHC
  go_enter Tryz.func21, Tryz.ntmps21
  go_upto_region 1 with fail
  generalize ((w.alloc (.cells #[.int .i8 a.f, .int .i64 a.d, .int .i8 a.g, .int .i64 a.e] 26)).alloc (.cells #[.int .i8 b.f, .int .i64 b.d, .int .i8 b.g, .int .i64 b.e] 26)).alloc (.cells #[.int .i8 0, .int .i64 0, .int .i8 0, .int .i64 0] 26) = w0 at *
  obtain ⟨kHA0, kHA1, kHA2, kHA3⟩ := HA.1.cs
  obtain ⟨kHC0, kHC1, kHC2, kHC3⟩ := HC.1.cs
  go_wp2_with fail
  refine (r1.1 _ HB.1.below).mono ?_
  rintro e u1 ⟨rfl, hbl⟩
  clear kHA0 kHA1 kHA2 kHA3 kHC0 kHC1 kHC2 kHC3
  have HB := Kp.mk (HB.1.step hbl)
  have HA := Kp.mk (HA.1.step hbl)
  have HC := Kp.mk (HC.1.step hbl)
  have HR := Kp.mk (HR.1.step hbl)
  clear hbl
  obtain ⟨kHA0, kHA1, kHA2, kHA3⟩ := HA.1.cs
  obtain ⟨kHC0, kHC1, kHC2, kHC3⟩ := HC.1.cs
  go_wp2_with (first
   | refine wpList_store_row' rfl 26 (.tmp 4) (.tmp 11) rfl (w.heap.size + 1 + 1) #[.int .i8 0, .int .i64 0, .int .i8 0, .int .i64 0] rfl rfl 26 #[.int .i8 0, .int .i64 0, .int .i8 0, .int .i64 0] HR.1.heap infoRn rfl (four_rn _ _ _ _) ?_)
  refine bodyPost_ret (results_cell_tmp (p := 4) (ty := 26) rfl _ _ (w.heap.size + 1 + 1) 26 #[.int .i8 0, .int .i64 0, .int .i8 0, .int .i64 0] (0, 0) _ rfl (setRow_heap _ _ _ _ _ _ HR.1.heap) Tryz.underlying26 rfl infoRn) rfl ?_
  exact ⟨rfl, below_setRow HR.1.below HR.1.base _⟩
end Go.Proofs.YtndjcmclmhoigaaGreatDoor
