/-
 DERIVED. CONTRACTS of package ends (the developers' functions) but for Text, Parse. Written by mken7.py.
-/
import Derived.Test.YteddfolhpoikcaaGreatDoorPRg
import Derived.Test.YteddfolhpoikcaaGreatDoorPHand
import Derived.Test.YteddfolhpoikcaaGreatDoorPI1Txt
import Derived.Test.YteddfolhpoikcaaGreatDoorPIn
namespace Go.Proofs.YteddfolhpoikcaaGreatDoor
open Go.RowKit
set_option maxRecDepth 100000

/-- the variables: as they were laid -/
structure LaidEn (w : World) : Prop where
 ints : I1.Laid w
 m0 : w.cell? ⟨0, 0, none⟩ = some (.int .i8 (-1))
 m1 : w.cell? ⟨0, 1, none⟩ = some (.int .i64 0)
 g0 : w.cell? ⟨1, 0, none⟩ = some (.int .i8 1)
 g1 : w.cell? ⟨1, 1, none⟩ = some (.int .i64 0)
 size : 0 < w.heap.size ∧ 1 < w.heap.size
theorem LaidEn.below {w w' : World} (h : LaidEn w) (hb : Below w.heap.size w w') : LaidEn w' where
 ints := h.ints.below hb
 m0 := by rw [hb.cell (p := ⟨0, 0, none⟩) h.size.1]; exact h.m0
 m1 := by rw [hb.cell (p := ⟨0, 1, none⟩) h.size.1]; exact h.m1
 g0 := by rw [hb.cell (p := ⟨1, 0, none⟩) h.size.2]; exact h.g0
 g1 := by rw [hb.cell (p := ⟨1, 1, none⟩) h.size.2]; exact h.g1
 size := ⟨Nat.lt_of_lt_of_le h.size.1 hb.size, Nat.lt_of_lt_of_le h.size.2 hb.size⟩
/-- one result, a struct in a block -/
theorem results_one_cell {P : Program} {fn : Func} {p : Tmp} {ty : TypeId} (h : fn.results = #[.cell p ty]) (tmps : Array Value) (w : World) (g : Nat) (t : TypeId) (cs : Array Value) (fr : Nat × Nat) (d : TypeDesc)
 (hp : tmps.getD p undef = .pointer (some ⟨g, 0, none⟩)) (hg : w.heap[g]? = some (.cells cs t fr))
 (hu : P.underlying ty = some d) (hd : (match d with | .struct _ | .array _ _ => true | _ => false) = true) (hi : (P.info? ty).map (·.size) = some cs.size) :
 (results fn tmps).run P w = .ok (.agg cs) w := by
 have hp' : tmps[p]?.getD undef = .pointer (some ⟨g, 0, none⟩) := by simpa using hp
 simp [results, h, hp', asAddr, run_loadVar_row w g t ty cs fr d hg hu hd hi]
/-- the end is beyond all days -/
def isInfB (f d : Int) : Bool := decide ((f = 1 ∨ f = -1) ∧ d = 0)
set_option maxHeartbeats 1000000 in
theorem dOf_is (d : Int) (w : World) :
 Calls Tryz.prog 47 #[.int .i64 d] w fun x w' => x = .returned (.agg #[.int .i8 0, .int .i64 d]) ∧ Below w.heap.size w w' := by
 have HR := Kp.mk (erow_new (w := w) 0 0 (Below.refl w.heap.size w))
 go_enter Tryz.func47, Tryz.ntmps47
 go_upto_region 1 with fail
 generalize w.alloc (.cells #[.int .i8 0, .int .i64 0] 24) = w0 at *
 go_wp2_with (first
  | refine wpList_store_row' rfl 24 (.tmp 2) (.tmp 4) rfl (w.heap.size) #[.int .i8 0, .int .i64 d] rfl rfl 24 #[.int .i8 0, .int .i64 0] HR.out.heap infoEnd rfl (two_one _ _) ?_)
 refine bodyPost_ret (results_one_cell (p := 2) (ty := 24) rfl _ _ (w.heap.size) 24 #[.int .i8 0, .int .i64 d] (0, 0) _ rfl (setRow_heap _ _ _ _ _ _ HR.out.heap) Tryz.underlying24 rfl infoEnd) rfl ?_
 exact ⟨rfl, below_setRow HR.out.below HR.out.base _⟩
set_option maxHeartbeats 1000000 in
theorem dInf_is {f d : Int} {b : Bool} (hb : isInfB f d = b) (w : World) (hL : LaidEn w) :
 Calls Tryz.prog 68 #[.agg #[.int .i8 f, .int .i64 d]] w fun x w' => x = .returned (.bool b) ∧ Below w.heap.size w w' := by
 have HA := Kp.mk (eb_new f d 24 (Below.refl w.heap.size w))
 have HL := Kp.mk (hL.below HA.out.below)
 clear hL
 unfold isInfB at hb
 by_cases h1 : f = -1
 ·subst h1
  by_cases h2 : d = 0
  ·subst h2
   obtain rfl : true = b := by rw [← hb]; decide
   clear hb
   go_enter Tryz.func68, Tryz.ntmps68
   go_upto_region 1 with fail
   generalize w.alloc (.cells #[.int .i8 (-1), .int .i64 0] 24) = w0 at *
   have k0 := HA.out.c0
   have k1 := HA.out.c1
   have m0 := HL.out.m0
   have m1 := HL.out.m1
   have g0 := HL.out.g0
   have g1 := HL.out.g1
   go_wp2_with fail
   go_ret
   exact ⟨rfl, HA.out.below⟩
  ·obtain rfl : false = b := by rw [← hb]; symm; rw [decide_eq_false_iff_not]; omega
   have t2 : (d == 0) = false := by rw [beq_eq_false_iff_ne]; exact h2
   clear hb h2
   go_enter Tryz.func68, Tryz.ntmps68
   go_upto_region 1 with fail
   generalize w.alloc (.cells #[.int .i8 (-1), .int .i64 d] 24) = w0 at *
   have k0 := HA.out.c0
   have k1 := HA.out.c1
   have m0 := HL.out.m0
   have m1 := HL.out.m1
   have g0 := HL.out.g0
   have g1 := HL.out.g1
   go_wp2_with fail
   go_ret
   exact ⟨rfl, HA.out.below⟩
 ·have t1 : (f == -1) = false := by rw [beq_eq_false_iff_ne]; exact h1
  by_cases h3 : f = 1
  ·subst h3
   by_cases h2 : d = 0
   ·subst h2
    obtain rfl : true = b := by rw [← hb]; decide
    clear hb t1 h1
    go_enter Tryz.func68, Tryz.ntmps68
    go_upto_region 1 with fail
    generalize w.alloc (.cells #[.int .i8 1, .int .i64 0] 24) = w0 at *
    have k0 := HA.out.c0
    have k1 := HA.out.c1
    have m0 := HL.out.m0
    have m1 := HL.out.m1
    have g0 := HL.out.g0
    have g1 := HL.out.g1
    go_wp2_with fail
    go_ret
    exact ⟨rfl, HA.out.below⟩
   ·obtain rfl : false = b := by rw [← hb]; symm; rw [decide_eq_false_iff_not]; omega
    have t2 : (d == 0) = false := by rw [beq_eq_false_iff_ne]; exact h2
    clear hb h2 t1 h1
    go_enter Tryz.func68, Tryz.ntmps68
    go_upto_region 1 with fail
    generalize w.alloc (.cells #[.int .i8 1, .int .i64 d] 24) = w0 at *
    have k0 := HA.out.c0
    have k1 := HA.out.c1
    have m0 := HL.out.m0
    have m1 := HL.out.m1
    have g0 := HL.out.g0
    have g1 := HL.out.g1
    go_wp2_with fail
    go_ret
    exact ⟨rfl, HA.out.below⟩
  ·obtain rfl : false = b := by rw [← hb]; symm; rw [decide_eq_false_iff_not]; omega
   have t3 : (f == 1) = false := by rw [beq_eq_false_iff_ne]; exact h3
   clear hb h1 h3
   go_enter Tryz.func68, Tryz.ntmps68
   go_upto_region 1 with fail
   generalize w.alloc (.cells #[.int .i8 f, .int .i64 d] 24) = w0 at *
   have k0 := HA.out.c0
   have k1 := HA.out.c1
   have m0 := HL.out.m0
   have m1 := HL.out.m1
   have g0 := HL.out.g0
   have g1 := HL.out.g1
   go_wp2_with fail
   go_ret
   exact ⟨rfl, HA.out.below⟩
set_option maxHeartbeats 2000000 in
theorem dChk_is {f d c : Int} (hc : chkE f d = c) (w : World) (hL : LaidEn w) :
 Calls Tryz.prog 38 #[.agg #[.int .i8 f, .int .i64 d]] w fun x w' => x = .returned (.int .i64 c) ∧ Below w.heap.size w w' := by
 have HA := Kp.mk (eb_new f d 24 (Below.refl w.heap.size w))
 have HB := Kp.mk (Bl.mk HA.out.below)
 have r1 := Kp.mk (fun v (_ : Below w.heap.size w v) => dOf_is d v)
 unfold chkE at hc
 by_cases h0 : f = 0
 ·subst h0
  obtain rfl : 0 = c := by rw [← hc, if_pos (.inl rfl)]
  clear hc hL
  go_enter Tryz.func38, Tryz.ntmps38
  go_upto_region 1 with fail
  generalize w.alloc (.cells #[.int .i8 0, .int .i64 d] 24) = w0 at *
  have kHA0 := HA.out.c0
  have kHA1 := HA.out.c1
  have hbl := (Below.refl w0.heap.size w0).drew
  have HBz := Kp.mk (HB.out.step hbl)
  have HAz := Kp.mk (HA.out.step hbl)
  have kHA0z := HAz.out.c0
  have kHA1z := HAz.out.c1
  clear hbl
  clear kHA0 kHA1
  refine wp_region_held_drew (S := fun w' => w'.cell? ⟨w.heap.size, 0, none⟩ = some (.int .i8 0) ∧ w'.cell? ⟨w.heap.size, 1, none⟩ = some (.int .i64 d)) (by kernel_rfl) ?_ (fun hHeld => ?_)
  ·with_reducible exact ⟨kHA0z, kHA1z⟩
  refine tk 0 ?_ rfl hHeld ?_ ?_
  rotate_left
  ·(intro w hSw; (try dsimp only at hSw); go_simp; try with_reducible rfl)
  try simp only [pt]
  refine tk 1 ?_ rfl hHeld ?_ ?_
  rotate_left
  ·(intro w hSw; (try dsimp only at hSw); go_simp; try with_reducible rfl)
  try simp only [pt]
  refine tk 2 ?_ rfl hHeld ?_ ?_
  rotate_left
  ·(intro w hSw; (try dsimp only at hSw); go_simp; try with_reducible rfl)
  try simp only [pt]
  refine rd [3] ?_
  refine AllReadyH.cons (dropAt rfl) (fun K hK => ?_) AllReadyH.nil
  go_simp
  go_at_call 47
  with_reducible refine (r1.out _ HBz.out.below).mono ?_
  rintro e u1 ⟨rfl, hb⟩
  have HB_u1 := Kp.mk (HBz.out.step hb)
  have HA_u1 := Kp.mk (HAz.out.step hb)
  have kHA0_u1 := HA_u1.out.c0
  have kHA1_u1 := HA_u1.out.c1
  clear hHeld kHA0z kHA1z HBz HAz hb
  go_wp2_with fail
  refine hK.out _ _ ?_ (fun hHeld => ?_)
  ·with_reducible exact ⟨kHA0_u1, kHA1_u1⟩
  clear hK K
  try simp only [pt]
  refine tk 4 ?_ rfl hHeld ?_ ?_
  rotate_left
  ·(intro w hSw; (try dsimp only at hSw); go_simp; try with_reducible rfl)
  try simp only [pt]
  refine tk 5 ?_ rfl hHeld ?_ ?_
  rotate_left
  ·(intro w hSw; (try dsimp only at hSw); go_simp; try with_reducible rfl)
  try simp only [pt]
  refine takeOut (i := 6) rfl (by kernel_rfl) (by kernel_rfl) (by kernel_rfl) (fun _ _ _ h => h) (by rfl) hHeld ?_
  try simp only [pt]
  refine takeOut (i := 7) rfl (by kernel_rfl) (by kernel_rfl) (by kernel_rfl) (fun _ _ _ h => h) (by rfl) hHeld ?_
  try simp only [pt]
  refine takeOut (i := 8) rfl (by kernel_rfl) (by kernel_rfl) (by kernel_rfl) (fun _ _ _ h => h) (by rfl) hHeld ?_
  try simp only [pt]
  refine tk 9 ?_ rfl hHeld ?_ ?_
  rotate_left
  ·(intro w hSw; (try dsimp only at hSw); go_simp; try with_reducible rfl)
  try simp only [pt]
  refine wpAnyH_done (by kernel_rfl) ?_ _
  have HB := HB_u1
  have HA := HA_u1
  have kHA0 := HA.out.c0
  have kHA1 := HA.out.c1
  go_wp2_with fail
  go_ret
  exact ⟨rfl, HB.out.below⟩
 ·have t1 : (f == 0) = false := by rw [beq_eq_false_iff_ne]; exact h0
  cases hb : isInfB f d with
  | true =>
   have hb' : (f = 1 ∨ f = -1) ∧ d = 0 := of_decide_eq_true hb
   obtain rfl : 0 = c := by rw [← hc, if_pos (.inr hb')]
   have r2 := Kp.mk (fun v (h : Below w.heap.size w v) => dInf_is hb v (hL.below h))
   clear hc hL hb hb' h0
   go_enter Tryz.func38, Tryz.ntmps38
   go_upto_region 1 with fail
   generalize w.alloc (.cells #[.int .i8 f, .int .i64 d] 24) = w0 at *
   have kHA0 := HA.out.c0
   have kHA1 := HA.out.c1
   have hbl := (Below.refl w0.heap.size w0).drew
   have HBz := Kp.mk (HB.out.step hbl)
   have HAz := Kp.mk (HA.out.step hbl)
   have kHA0z := HAz.out.c0
   have kHA1z := HAz.out.c1
   clear hbl
   clear kHA0 kHA1
   refine wp_region_held_drew (S := fun w' => w'.cell? ⟨w.heap.size, 0, none⟩ = some (.int .i8 f) ∧ w'.cell? ⟨w.heap.size, 1, none⟩ = some (.int .i64 d)) (by kernel_rfl) ?_ (fun hHeld => ?_)
   ·with_reducible exact ⟨kHA0z, kHA1z⟩
   refine tk 0 ?_ rfl hHeld ?_ ?_
   rotate_left
   ·(intro w hSw; (try dsimp only at hSw); go_simp; try with_reducible rfl)
   try simp only [pt]
   refine tk 1 ?_ rfl hHeld ?_ ?_
   rotate_left
   ·(intro w hSw; (try dsimp only at hSw); go_simp; try with_reducible rfl)
   try simp only [pt]
   refine tk 2 ?_ rfl hHeld ?_ ?_
   rotate_left
   ·(intro w hSw; (try dsimp only at hSw); go_simp; try with_reducible rfl)
   try simp only [pt]
   refine rd [3] ?_
   refine AllReadyH.cons (dropAt rfl) (fun K hK => ?_) AllReadyH.nil
   go_simp
   go_at_call 47
   with_reducible refine (r1.out _ HBz.out.below).mono ?_
   rintro e u1 ⟨rfl, hb⟩
   have HB_u1 := Kp.mk (HBz.out.step hb)
   have HA_u1 := Kp.mk (HAz.out.step hb)
   have kHA0_u1 := HA_u1.out.c0
   have kHA1_u1 := HA_u1.out.c1
   clear hHeld kHA0z kHA1z HBz HAz hb
   go_wp2_with fail
   refine hK.out _ _ ?_ (fun hHeld => ?_)
   ·with_reducible exact ⟨kHA0_u1, kHA1_u1⟩
   clear hK K
   try simp only [pt]
   refine tk 4 ?_ rfl hHeld ?_ ?_
   rotate_left
   ·(intro w hSw; (try dsimp only at hSw); go_simp; try with_reducible rfl)
   try simp only [pt]
   refine tk 5 ?_ rfl hHeld ?_ ?_
   rotate_left
   ·(intro w hSw; (try dsimp only at hSw); go_simp; try with_reducible rfl)
   try simp only [pt]
   refine tk 6 ?_ rfl hHeld ?_ ?_
   rotate_left
   ·(intro w hSw; (try dsimp only at hSw); go_simp; try with_reducible rfl)
   try simp only [pt]
   refine rd [7] ?_
   refine AllReadyH.cons (dropAt rfl) (fun K hK => ?_) AllReadyH.nil
   go_simp
   go_at_call 68
   with_reducible refine (r2.out _ HB_u1.out.below).mono ?_
   rintro e u2 ⟨rfl, hb⟩
   have HB_u2 := Kp.mk (HB_u1.out.step hb)
   have HA_u2 := Kp.mk (HA_u1.out.step hb)
   have kHA0_u2 := HA_u2.out.c0
   have kHA1_u2 := HA_u2.out.c1
   clear hHeld kHA0_u1 kHA1_u1 HB_u1 HA_u1 hb
   go_wp2_with fail
   refine hK.out _ _ ?_ (fun hHeld => ?_)
   ·with_reducible exact ⟨kHA0_u2, kHA1_u2⟩
   clear hK K
   try simp only [pt]
   refine tk 8 ?_ rfl hHeld ?_ ?_
   rotate_left
   ·(intro w hSw; (try dsimp only at hSw); go_simp; try with_reducible rfl)
   try simp only [pt]
   refine tk 9 ?_ rfl hHeld ?_ ?_
   rotate_left
   ·(intro w hSw; (try dsimp only at hSw); go_simp; try with_reducible rfl)
   try simp only [pt]
   refine wpAnyH_done (by kernel_rfl) ?_ _
   have HB := HB_u2
   have HA := HA_u2
   have kHA0 := HA.out.c0
   have kHA1 := HA.out.c1
   go_wp2_with fail
   go_ret
   exact ⟨rfl, HB.out.below⟩
  | false =>
   have hb' : ¬ ((f = 1 ∨ f = -1) ∧ d = 0) := of_decide_eq_false hb
   obtain rfl : 5 = c := by rw [← hc, if_neg (by omega)]
   have r2 := Kp.mk (fun v (h : Below w.heap.size w v) => dInf_is hb v (hL.below h))
   clear hc hL hb hb' h0
   go_enter Tryz.func38, Tryz.ntmps38
   go_upto_region 1 with fail
   generalize w.alloc (.cells #[.int .i8 f, .int .i64 d] 24) = w0 at *
   have kHA0 := HA.out.c0
   have kHA1 := HA.out.c1
   have hbl := (Below.refl w0.heap.size w0).drew
   have HBz := Kp.mk (HB.out.step hbl)
   have HAz := Kp.mk (HA.out.step hbl)
   have kHA0z := HAz.out.c0
   have kHA1z := HAz.out.c1
   clear hbl
   clear kHA0 kHA1
   refine wp_region_held_drew (S := fun w' => w'.cell? ⟨w.heap.size, 0, none⟩ = some (.int .i8 f) ∧ w'.cell? ⟨w.heap.size, 1, none⟩ = some (.int .i64 d)) (by kernel_rfl) ?_ (fun hHeld => ?_)
   ·with_reducible exact ⟨kHA0z, kHA1z⟩
   refine tk 0 ?_ rfl hHeld ?_ ?_
   rotate_left
   ·(intro w hSw; (try dsimp only at hSw); go_simp; try with_reducible rfl)
   try simp only [pt]
   refine tk 1 ?_ rfl hHeld ?_ ?_
   rotate_left
   ·(intro w hSw; (try dsimp only at hSw); go_simp; try with_reducible rfl)
   try simp only [pt]
   refine tk 2 ?_ rfl hHeld ?_ ?_
   rotate_left
   ·(intro w hSw; (try dsimp only at hSw); go_simp; try with_reducible rfl)
   try simp only [pt]
   refine rd [3] ?_
   refine AllReadyH.cons (dropAt rfl) (fun K hK => ?_) AllReadyH.nil
   go_simp
   go_at_call 47
   with_reducible refine (r1.out _ HBz.out.below).mono ?_
   rintro e u1 ⟨rfl, hb⟩
   have HB_u1 := Kp.mk (HBz.out.step hb)
   have HA_u1 := Kp.mk (HAz.out.step hb)
   have kHA0_u1 := HA_u1.out.c0
   have kHA1_u1 := HA_u1.out.c1
   clear hHeld kHA0z kHA1z HBz HAz hb
   go_wp2_with fail
   refine hK.out _ _ ?_ (fun hHeld => ?_)
   ·with_reducible exact ⟨kHA0_u1, kHA1_u1⟩
   clear hK K
   try simp only [pt]
   refine tk 4 ?_ rfl hHeld ?_ ?_
   rotate_left
   ·(intro w hSw; (try dsimp only at hSw); go_simp; try with_reducible rfl)
   try simp only [pt]
   refine tk 5 ?_ rfl hHeld ?_ ?_
   rotate_left
   ·(intro w hSw; (try dsimp only at hSw); go_simp; try with_reducible rfl)
   try simp only [pt]
   refine tk 6 ?_ rfl hHeld ?_ ?_
   rotate_left
   ·(intro w hSw; (try dsimp only at hSw); go_simp; try with_reducible rfl)
   try simp only [pt]
   refine rd [7] ?_
   refine AllReadyH.cons (dropAt rfl) (fun K hK => ?_) AllReadyH.nil
   go_simp
   go_at_call 68
   with_reducible refine (r2.out _ HB_u1.out.below).mono ?_
   rintro e u2 ⟨rfl, hb⟩
   have HB_u2 := Kp.mk (HB_u1.out.step hb)
   have HA_u2 := Kp.mk (HA_u1.out.step hb)
   have kHA0_u2 := HA_u2.out.c0
   have kHA1_u2 := HA_u2.out.c1
   clear hHeld kHA0_u1 kHA1_u1 HB_u1 HA_u1 hb
   go_wp2_with fail
   refine hK.out _ _ ?_ (fun hHeld => ?_)
   ·with_reducible exact ⟨kHA0_u2, kHA1_u2⟩
   clear hK K
   try simp only [pt]
   refine tk 8 ?_ rfl hHeld ?_ ?_
   rotate_left
   ·(intro w hSw; (try dsimp only at hSw); go_simp; try with_reducible rfl)
   try simp only [pt]
   refine tk 9 ?_ rfl hHeld ?_ ?_
   rotate_left
   ·(intro w hSw; (try dsimp only at hSw); go_simp; try with_reducible rfl)
   try simp only [pt]
   refine wpAnyH_done (by kernel_rfl) ?_ _
   have HB := HB_u2
   have HA := HA_u2
   have kHA0 := HA.out.c0
   have kHA1 := HA.out.c1
   go_wp2_with fail
   go_ret
   exact ⟨rfl, HB.out.below⟩
end Go.Proofs.YteddfolhpoikcaaGreatDoor
