/-
 DERIVED. CONTRACTS of package ends (the developers' functions) but for Text, Parse. Written by mken7.py.
 DERIVED. strings.Cut at two points; what the variables give package runs. Written by mkrnd5.py.
 DERIVED. CONTRACTS of package ends (the developers' functions): Compare, Min, Max, step, Next, Prev. Written by mken8.py.
-/
import Derived.Test.YtndjcmclmhoigaaGreatDoorPA3
import Derived.Test.YtndjcmclmhoigaaGreatDoorPB5
import Derived.Test.YtndjcmclmhoigaaGreatDoorPShelf
import Derived.Test.YtndjcmclmhoigaaGreatDoorPA9
namespace Go.Proofs.YtndjcmclmhoigaaGreatDoor
open Go.RowKit
set_option maxRecDepth 100000

/-- the variables: as they were laid -/
structure LaidEn (w : World) : Prop where
 ints : I1.Laid w
 m0 : w.cell? ⟨2, 0, none⟩ = some (.int .i8 (-1))
 m1 : w.cell? ⟨2, 1, none⟩ = some (.int .i64 0)
 g0 : w.cell? ⟨3, 0, none⟩ = some (.int .i8 1)
 g1 : w.cell? ⟨3, 1, none⟩ = some (.int .i64 0)
 size : 2 < w.heap.size ∧ 3 < w.heap.size
theorem LaidEn.below {w w' : World} (h : LaidEn w) (hb : Below w.heap.size w w') : LaidEn w' where
 ints := h.ints.below hb
 m0 := by rw [hb.cell (p := ⟨2, 0, none⟩) h.size.1]; exact h.m0
 m1 := by rw [hb.cell (p := ⟨2, 1, none⟩) h.size.1]; exact h.m1
 g0 := by rw [hb.cell (p := ⟨3, 0, none⟩) h.size.2]; exact h.g0
 g1 := by rw [hb.cell (p := ⟨3, 1, none⟩) h.size.2]; exact h.g1
 size := ⟨Nat.lt_of_lt_of_le h.size.1 hb.size, Nat.lt_of_lt_of_le h.size.2 hb.size⟩
/-- one result, a struct in a block -/
theorem results_one_cell {P : Program} {fn : Func} {p : Tmp} {ty : TypeId} (h : fn.results = #[.cell p ty]) (tmps : Array Value) (w : World) (g : Nat) (t : TypeId) (cs : Array Value) (fr : Nat × Nat) (d : TypeDesc)
 (hp : tmps.getD p undef = .pointer (some ⟨g, 0, none⟩)) (hg : w.heap[g]? = some (.cells cs t fr))
 (hu : P.underlying ty = some d) (hd : (match d with | .struct _ | .array _ _ => true | _ => false) = true) (hi : (P.info? ty).map (·.size) = some cs.size) :
 (results fn tmps).run P w = .ok (.agg cs) w := by
 have hp' : tmps[p]?.getD undef = .pointer (some ⟨g, 0, none⟩) := by simpa using hp
 simp [results, h, hp', asAddr, run_loadVar_row w g t ty cs fr d hg hu hd hi]
/-- the end is beyond all days -/
def isInfB (f d : Int) : Bool := decide ((f = 1 ∨ f = -1) ∧ d = 0)
set_option maxHeartbeats 1000000 in
theorem dOf_is (d : Int) (w : World) :
 Calls Tryz.prog 83 #[.int .i64 d] w fun x w' => x = .returned (.agg #[.int .i8 0, .int .i64 d]) ∧ Below w.heap.size w w' := by
 have HR := Kp.mk (erow_new (w := w) 0 0 (Below.refl w.heap.size w))
 go_enter Tryz.func83, Tryz.ntmps83
 go_upto_region 1 with fail
 generalize w.alloc (.cells #[.int .i8 0, .int .i64 0] 24) = w0 at *
 go_wp2_with (first
  | refine wpList_store_row' rfl 24 (.tmp 2) (.tmp 4) rfl (w.heap.size) #[.int .i8 0, .int .i64 d] rfl rfl 24 #[.int .i8 0, .int .i64 0] HR.out.heap infoEnd rfl (two_one _ _) ?_)
 refine bodyPost_ret (results_one_cell (p := 2) (ty := 24) rfl _ _ (w.heap.size) 24 #[.int .i8 0, .int .i64 d] (0, 0) _ rfl (setRow_heap _ _ _ _ _ _ HR.out.heap) Tryz.underlying24 rfl infoEnd) rfl ?_
 exact ⟨rfl, below_setRow HR.out.below HR.out.base _⟩
set_option maxHeartbeats 1000000 in
theorem dInf_is {f d : Int} {b : Bool} (hb : isInfB f d = b) (w : World) (hL : LaidEn w) :
 Calls Tryz.prog 128 #[.agg #[.int .i8 f, .int .i64 d]] w fun x w' => x = .returned (.bool b) ∧ Below w.heap.size w w' := by
 have HA := Kp.mk (eb_new f d 24 (Below.refl w.heap.size w))
 have HL := Kp.mk (hL.below HA.out.below)
 clear hL
 unfold isInfB at hb
 by_cases h1 : f = -1
 ·subst h1
  by_cases h2 : d = 0
  ·subst h2
   obtain rfl : true = b := by rw [← hb]; decide
   clear hb
   go_enter Tryz.func128, Tryz.ntmps128
   go_upto_region 1 with fail
   generalize w.alloc (.cells #[.int .i8 (-1), .int .i64 0] 24) = w0 at *
   have k0 := HA.out.c0
   have k1 := HA.out.c1
   have m0 := HL.out.m0
   have m1 := HL.out.m1
   have g0 := HL.out.g0
   have g1 := HL.out.g1
   go_wp2_with fail
   go_ret
   exact ⟨rfl, HA.out.below⟩
  ·obtain rfl : false = b := by rw [← hb]; symm; rw [decide_eq_false_iff_not]; omega
   have t2 : (d == 0) = false := by rw [beq_eq_false_iff_ne]; exact h2
   clear hb h2
   go_enter Tryz.func128, Tryz.ntmps128
   go_upto_region 1 with fail
   generalize w.alloc (.cells #[.int .i8 (-1), .int .i64 d] 24) = w0 at *
   have k0 := HA.out.c0
   have k1 := HA.out.c1
   have m0 := HL.out.m0
   have m1 := HL.out.m1
   have g0 := HL.out.g0
   have g1 := HL.out.g1
   go_wp2_with fail
   go_ret
   exact ⟨rfl, HA.out.below⟩
 ·have t1 : (f == -1) = false := by rw [beq_eq_false_iff_ne]; exact h1
  by_cases h3 : f = 1
  ·subst h3
   by_cases h2 : d = 0
   ·subst h2
    obtain rfl : true = b := by rw [← hb]; decide
    clear hb t1 h1
    go_enter Tryz.func128, Tryz.ntmps128
    go_upto_region 1 with fail
    generalize w.alloc (.cells #[.int .i8 1, .int .i64 0] 24) = w0 at *
    have k0 := HA.out.c0
    have k1 := HA.out.c1
    have m0 := HL.out.m0
    have m1 := HL.out.m1
    have g0 := HL.out.g0
    have g1 := HL.out.g1
    go_wp2_with fail
    go_ret
    exact ⟨rfl, HA.out.below⟩
   ·obtain rfl : false = b := by rw [← hb]; symm; rw [decide_eq_false_iff_not]; omega
    have t2 : (d == 0) = false := by rw [beq_eq_false_iff_ne]; exact h2
    clear hb h2 t1 h1
    go_enter Tryz.func128, Tryz.ntmps128
    go_upto_region 1 with fail
    generalize w.alloc (.cells #[.int .i8 1, .int .i64 d] 24) = w0 at *
    have k0 := HA.out.c0
    have k1 := HA.out.c1
    have m0 := HL.out.m0
    have m1 := HL.out.m1
    have g0 := HL.out.g0
    have g1 := HL.out.g1
    go_wp2_with fail
    go_ret
    exact ⟨rfl, HA.out.below⟩
  ·obtain rfl : false = b := by rw [← hb]; symm; rw [decide_eq_false_iff_not]; omega
   have t3 : (f == 1) = false := by rw [beq_eq_false_iff_ne]; exact h3
   clear hb h1 h3
   go_enter Tryz.func128, Tryz.ntmps128
   go_upto_region 1 with fail
   generalize w.alloc (.cells #[.int .i8 f, .int .i64 d] 24) = w0 at *
   have k0 := HA.out.c0
   have k1 := HA.out.c1
   have m0 := HL.out.m0
   have m1 := HL.out.m1
   have g0 := HL.out.g0
   have g1 := HL.out.g1
   go_wp2_with fail
   go_ret
   exact ⟨rfl, HA.out.below⟩
set_option maxHeartbeats 2000000 in
theorem dChk_is {f d c : Int} (hc : chkE f d = c) (w : World) (hL : LaidEn w) :
 Calls Tryz.prog 74 #[.agg #[.int .i8 f, .int .i64 d]] w fun x w' => x = .returned (.int .i64 c) ∧ Below w.heap.size w w' := by
 have HA := Kp.mk (eb_new f d 24 (Below.refl w.heap.size w))
 have HB := Kp.mk (Bl.mk HA.out.below)
 have r1 := Kp.mk (fun v (_ : Below w.heap.size w v) => dOf_is d v)
 unfold chkE at hc
 by_cases h0 : f = 0
 ·subst h0
  obtain rfl : 0 = c := by rw [← hc, if_pos (.inl rfl)]
  clear hc hL
  go_enter Tryz.func74, Tryz.ntmps74
  go_upto_region 1 with fail
  generalize w.alloc (.cells #[.int .i8 0, .int .i64 d] 24) = w0 at *
  have kHA0 := HA.out.c0
  have kHA1 := HA.out.c1
  have hbl := (Below.refl w0.heap.size w0).drew
  have HBz := Kp.mk (HB.out.step hbl)
  have HAz := Kp.mk (HA.out.step hbl)
  have kHA0z := HAz.out.c0
  have kHA1z := HAz.out.c1
  clear hbl
  clear kHA0 kHA1
  refine wp_region_held_drew (S := fun w' => w'.cell? ⟨w.heap.size, 0, none⟩ = some (.int .i8 0) ∧ w'.cell? ⟨w.heap.size, 1, none⟩ = some (.int .i64 d)) (by kernel_rfl) ?_ (fun hHeld => ?_)
  ·with_reducible exact ⟨kHA0z, kHA1z⟩
  refine tk 0 ?_ rfl hHeld ?_ ?_
  rotate_left
  ·(intro w hSw; (try dsimp only at hSw); go_simp; try with_reducible rfl)
  try simp only [pt]
  refine tk 1 ?_ rfl hHeld ?_ ?_
  rotate_left
  ·(intro w hSw; (try dsimp only at hSw); go_simp; try with_reducible rfl)
  try simp only [pt]
  refine tk 2 ?_ rfl hHeld ?_ ?_
  rotate_left
  ·(intro w hSw; (try dsimp only at hSw); go_simp; try with_reducible rfl)
  try simp only [pt]
  refine rd [3] ?_
  refine AllReadyH.cons (dropAt rfl) (fun K hK => ?_) AllReadyH.nil
  go_simp
  go_at_call 83
  with_reducible refine (r1.out _ HBz.out.below).mono ?_
  rintro e u1 ⟨rfl, hb⟩
  have HB_u1 := Kp.mk (HBz.out.step hb)
  have HA_u1 := Kp.mk (HAz.out.step hb)
  have kHA0_u1 := HA_u1.out.c0
  have kHA1_u1 := HA_u1.out.c1
  clear hHeld kHA0z kHA1z HBz HAz hb
  go_wp2_with fail
  refine hK.out _ _ ?_ (fun hHeld => ?_)
  ·with_reducible exact ⟨kHA0_u1, kHA1_u1⟩
  clear hK K
  try simp only [pt]
  refine tk 4 ?_ rfl hHeld ?_ ?_
  rotate_left
  ·(intro w hSw; (try dsimp only at hSw); go_simp; try with_reducible rfl)
  try simp only [pt]
  refine tk 5 ?_ rfl hHeld ?_ ?_
  rotate_left
  ·(intro w hSw; (try dsimp only at hSw); go_simp; try with_reducible rfl)
  try simp only [pt]
  refine takeOut (i := 6) rfl (by kernel_rfl) (by kernel_rfl) (by kernel_rfl) (fun _ _ _ h => h) (by rfl) hHeld ?_
  try simp only [pt]
  refine takeOut (i := 7) rfl (by kernel_rfl) (by kernel_rfl) (by kernel_rfl) (fun _ _ _ h => h) (by rfl) hHeld ?_
  try simp only [pt]
  refine takeOut (i := 8) rfl (by kernel_rfl) (by kernel_rfl) (by kernel_rfl) (fun _ _ _ h => h) (by rfl) hHeld ?_
  try simp only [pt]
  refine tk 9 ?_ rfl hHeld ?_ ?_
  rotate_left
  ·(intro w hSw; (try dsimp only at hSw); go_simp; try with_reducible rfl)
  try simp only [pt]
  refine wpAnyH_done (by kernel_rfl) ?_ _
  have HB := HB_u1
  have HA := HA_u1
  have kHA0 := HA.out.c0
  have kHA1 := HA.out.c1
  go_wp2_with fail
  go_ret
  exact ⟨rfl, HB.out.below⟩
 ·have t1 : (f == 0) = false := by rw [beq_eq_false_iff_ne]; exact h0
  cases hb : isInfB f d with
  | true =>
   have hb' : (f = 1 ∨ f = -1) ∧ d = 0 := of_decide_eq_true hb
   obtain rfl : 0 = c := by rw [← hc, if_pos (.inr hb')]
   have r2 := Kp.mk (fun v (h : Below w.heap.size w v) => dInf_is hb v (hL.below h))
   clear hc hL hb hb' h0
   go_enter Tryz.func74, Tryz.ntmps74
   go_upto_region 1 with fail
   generalize w.alloc (.cells #[.int .i8 f, .int .i64 d] 24) = w0 at *
   have kHA0 := HA.out.c0
   have kHA1 := HA.out.c1
   have hbl := (Below.refl w0.heap.size w0).drew
   have HBz := Kp.mk (HB.out.step hbl)
   have HAz := Kp.mk (HA.out.step hbl)
   have kHA0z := HAz.out.c0
   have kHA1z := HAz.out.c1
   clear hbl
   clear kHA0 kHA1
   refine wp_region_held_drew (S := fun w' => w'.cell? ⟨w.heap.size, 0, none⟩ = some (.int .i8 f) ∧ w'.cell? ⟨w.heap.size, 1, none⟩ = some (.int .i64 d)) (by kernel_rfl) ?_ (fun hHeld => ?_)
   ·with_reducible exact ⟨kHA0z, kHA1z⟩
   refine tk 0 ?_ rfl hHeld ?_ ?_
   rotate_left
   ·(intro w hSw; (try dsimp only at hSw); go_simp; try with_reducible rfl)
   try simp only [pt]
   refine tk 1 ?_ rfl hHeld ?_ ?_
   rotate_left
   ·(intro w hSw; (try dsimp only at hSw); go_simp; try with_reducible rfl)
   try simp only [pt]
   refine tk 2 ?_ rfl hHeld ?_ ?_
   rotate_left
   ·(intro w hSw; (try dsimp only at hSw); go_simp; try with_reducible rfl)
   try simp only [pt]
   refine rd [3] ?_
   refine AllReadyH.cons (dropAt rfl) (fun K hK => ?_) AllReadyH.nil
   go_simp
   go_at_call 83
   with_reducible refine (r1.out _ HBz.out.below).mono ?_
   rintro e u1 ⟨rfl, hb⟩
   have HB_u1 := Kp.mk (HBz.out.step hb)
   have HA_u1 := Kp.mk (HAz.out.step hb)
   have kHA0_u1 := HA_u1.out.c0
   have kHA1_u1 := HA_u1.out.c1
   clear hHeld kHA0z kHA1z HBz HAz hb
   go_wp2_with fail
   refine hK.out _ _ ?_ (fun hHeld => ?_)
   ·with_reducible exact ⟨kHA0_u1, kHA1_u1⟩
   clear hK K
   try simp only [pt]
   refine tk 4 ?_ rfl hHeld ?_ ?_
   rotate_left
   ·(intro w hSw; (try dsimp only at hSw); go_simp; try with_reducible rfl)
   try simp only [pt]
   refine tk 5 ?_ rfl hHeld ?_ ?_
   rotate_left
   ·(intro w hSw; (try dsimp only at hSw); go_simp; try with_reducible rfl)
   try simp only [pt]
   refine tk 6 ?_ rfl hHeld ?_ ?_
   rotate_left
   ·(intro w hSw; (try dsimp only at hSw); go_simp; try with_reducible rfl)
   try simp only [pt]
   refine rd [7] ?_
   refine AllReadyH.cons (dropAt rfl) (fun K hK => ?_) AllReadyH.nil
   go_simp
   go_at_call 128
   with_reducible refine (r2.out _ HB_u1.out.below).mono ?_
   rintro e u2 ⟨rfl, hb⟩
   have HB_u2 := Kp.mk (HB_u1.out.step hb)
   have HA_u2 := Kp.mk (HA_u1.out.step hb)
   have kHA0_u2 := HA_u2.out.c0
   have kHA1_u2 := HA_u2.out.c1
   clear hHeld kHA0_u1 kHA1_u1 HB_u1 HA_u1 hb
   go_wp2_with fail
   refine hK.out _ _ ?_ (fun hHeld => ?_)
   ·with_reducible exact ⟨kHA0_u2, kHA1_u2⟩
   clear hK K
   try simp only [pt]
   refine tk 8 ?_ rfl hHeld ?_ ?_
   rotate_left
   ·(intro w hSw; (try dsimp only at hSw); go_simp; try with_reducible rfl)
   try simp only [pt]
   refine tk 9 ?_ rfl hHeld ?_ ?_
   rotate_left
   ·(intro w hSw; (try dsimp only at hSw); go_simp; try with_reducible rfl)
   try simp only [pt]
   refine wpAnyH_done (by kernel_rfl) ?_ _
   have HB := HB_u2
   have HA := HA_u2
   have kHA0 := HA.out.c0
   have kHA1 := HA.out.c1
   go_wp2_with fail
   go_ret
   exact ⟨rfl, HB.out.below⟩
  | false =>
   have hb' : ¬ ((f = 1 ∨ f = -1) ∧ d = 0) := of_decide_eq_false hb
   obtain rfl : 5 = c := by rw [← hc, if_neg (by omega)]
   have r2 := Kp.mk (fun v (h : Below w.heap.size w v) => dInf_is hb v (hL.below h))
   clear hc hL hb hb' h0
   go_enter Tryz.func74, Tryz.ntmps74
   go_upto_region 1 with fail
   generalize w.alloc (.cells #[.int .i8 f, .int .i64 d] 24) = w0 at *
   have kHA0 := HA.out.c0
   have kHA1 := HA.out.c1
   have hbl := (Below.refl w0.heap.size w0).drew
   have HBz := Kp.mk (HB.out.step hbl)
   have HAz := Kp.mk (HA.out.step hbl)
   have kHA0z := HAz.out.c0
   have kHA1z := HAz.out.c1
   clear hbl
   clear kHA0 kHA1
   refine wp_region_held_drew (S := fun w' => w'.cell? ⟨w.heap.size, 0, none⟩ = some (.int .i8 f) ∧ w'.cell? ⟨w.heap.size, 1, none⟩ = some (.int .i64 d)) (by kernel_rfl) ?_ (fun hHeld => ?_)
   ·with_reducible exact ⟨kHA0z, kHA1z⟩
   refine tk 0 ?_ rfl hHeld ?_ ?_
   rotate_left
   ·(intro w hSw; (try dsimp only at hSw); go_simp; try with_reducible rfl)
   try simp only [pt]
   refine tk 1 ?_ rfl hHeld ?_ ?_
   rotate_left
   ·(intro w hSw; (try dsimp only at hSw); go_simp; try with_reducible rfl)
   try simp only [pt]
   refine tk 2 ?_ rfl hHeld ?_ ?_
   rotate_left
   ·(intro w hSw; (try dsimp only at hSw); go_simp; try with_reducible rfl)
   try simp only [pt]
   refine rd [3] ?_
   refine AllReadyH.cons (dropAt rfl) (fun K hK => ?_) AllReadyH.nil
   go_simp
   go_at_call 83
   with_reducible refine (r1.out _ HBz.out.below).mono ?_
   rintro e u1 ⟨rfl, hb⟩
   have HB_u1 := Kp.mk (HBz.out.step hb)
   have HA_u1 := Kp.mk (HAz.out.step hb)
   have kHA0_u1 := HA_u1.out.c0
   have kHA1_u1 := HA_u1.out.c1
   clear hHeld kHA0z kHA1z HBz HAz hb
   go_wp2_with fail
   refine hK.out _ _ ?_ (fun hHeld => ?_)
   ·with_reducible exact ⟨kHA0_u1, kHA1_u1⟩
   clear hK K
   try simp only [pt]
   refine tk 4 ?_ rfl hHeld ?_ ?_
   rotate_left
   ·(intro w hSw; (try dsimp only at hSw); go_simp; try with_reducible rfl)
   try simp only [pt]
   refine tk 5 ?_ rfl hHeld ?_ ?_
   rotate_left
   ·(intro w hSw; (try dsimp only at hSw); go_simp; try with_reducible rfl)
   try simp only [pt]
   refine tk 6 ?_ rfl hHeld ?_ ?_
   rotate_left
   ·(intro w hSw; (try dsimp only at hSw); go_simp; try with_reducible rfl)
   try simp only [pt]
   refine rd [7] ?_
   refine AllReadyH.cons (dropAt rfl) (fun K hK => ?_) AllReadyH.nil
   go_simp
   go_at_call 128
   with_reducible refine (r2.out _ HB_u1.out.below).mono ?_
   rintro e u2 ⟨rfl, hb⟩
   have HB_u2 := Kp.mk (HB_u1.out.step hb)
   have HA_u2 := Kp.mk (HA_u1.out.step hb)
   have kHA0_u2 := HA_u2.out.c0
   have kHA1_u2 := HA_u2.out.c1
   clear hHeld kHA0_u1 kHA1_u1 HB_u1 HA_u1 hb
   go_wp2_with fail
   refine hK.out _ _ ?_ (fun hHeld => ?_)
   ·with_reducible exact ⟨kHA0_u2, kHA1_u2⟩
   clear hK K
   try simp only [pt]
   refine tk 8 ?_ rfl hHeld ?_ ?_
   rotate_left
   ·(intro w hSw; (try dsimp only at hSw); go_simp; try with_reducible rfl)
   try simp only [pt]
   refine tk 9 ?_ rfl hHeld ?_ ?_
   rotate_left
   ·(intro w hSw; (try dsimp only at hSw); go_simp; try with_reducible rfl)
   try simp only [pt]
   refine wpAnyH_done (by kernel_rfl) ?_ _
   have HB := HB_u2
   have HA := HA_u2
   have kHA0 := HA.out.c0
   have kHA1 := HA.out.c1
   go_wp2_with fail
   go_ret
   exact ⟨rfl, HB.out.below⟩
end Go.Proofs.YtndjcmclmhoigaaGreatDoor
namespace Go.Proofs.YtndjcmclmhoigaaGreatDoor
open Go.RowKit
set_option maxRecDepth 100000


theorem occ_dd (l : List UInt8) (i : Nat) : Lib.occAt l [46, 46] i = true ↔ dd l i := by
 unfold Lib.occAt dd
 have h0 : l[i]? = (l.drop i)[0]? := by rw [List.getElem?_drop]; simp
 have h1 : l[i + 1]? = (l.drop i)[1]? := by rw [List.getElem?_drop]
 rw [h0, h1]
 rcases l.drop i with _ | ⟨x, _ | ⟨y, t⟩⟩
 ·exact ⟨fun h => absurd h (by decide), fun h => absurd h.1 (by simp)⟩
 ·exact ⟨fun h => absurd (show ((46 == x) && false) = true from h) (by cases (46 == x) <;> decide), fun h => absurd h.2 (by simp)⟩
 ·show ((46 == x) && ((46 == y) && true)) = true ↔ some x = some 46 ∧ some y = some 46
  rw [Bool.and_eq_true, Bool.and_eq_true, beq_iff_eq, beq_iff_eq]
  exact ⟨fun h => ⟨by rw [h.1], by rw [h.2.1]⟩, fun h => ⟨(Option.some.inj h.1).symm, (Option.some.inj h.2).symm, rfl⟩⟩
theorem libcut_at {l : List UInt8} {j : Nat} (h : CutAt l j) : Lib.cut l [46, 46] = (l.take j, l.drop (j + 2), true) := by
 have := Lib.index_first (s := l) (sub := [46, 46]) (i := j) (by have := h.lt; omega) ((occ_dd l j).2 h.two) (fun i hi => Bool.eq_false_iff.2 (fun q => h.first i hi ((occ_dd l i).1 q)))
 unfold Lib.cut
 rw [this, if_pos (by omega)]
 simp
theorem libcut_no {l : List UInt8} (h : NoCut l) : Lib.cut l [46, 46] = (l, [], false) := by
 rcases Lib.index_spec l [46, 46] with ⟨h1, _⟩ | ⟨i, _, _, h3, _⟩
 ·unfold Lib.cut
  rw [h1, if_neg (by omega)]
 ·exact absurd ((occ_dd l i).1 h3) (h i)
theorem below_drewN {B : Nat} {a w : World} (h : Below B a w) (n : Nat) : Below B a (w.drewN n) := h.trans ⟨rfl, rfl, rfl, Nat.le_refl _, fun _ _ => rfl⟩
/-- the variables that package runs reads: as they were laid; the library's MaxLen holds some number -/
structure LaidRn (w : World) : Prop where
 en : LaidEn w
 mx : ∃ m, w.cell? ⟨4, 0, none⟩ = some (.int .i64 m)
 size : 4 < w.heap.size
theorem LaidRn.below {w w' : World} (h : LaidRn w) (hb : Below w.heap.size w w') : LaidRn w' where
 en := h.en.below hb
 mx := by rw [hb.cell (p := ⟨4, 0, none⟩) h.size]; exact h.mx
 size := Nat.lt_of_lt_of_le h.size hb.size
theorem dCut_at {l : List UInt8} {j : Nat} (h : CutAt l j) (hl : l.length ≤ 900) (w : World) (hL : LaidRn w) :
 Calls Tryz.prog 99 #[.string (bs l), .string ⟨#[46, 46]⟩] w fun e w' => e = .returned (.tuple #[.string (bs (l.take j)), .string (bs (l.drop (j + 2))), .bool true]) ∧ Below w.heap.size w w' := by
 obtain ⟨m, hm⟩ := hL.mx
 refine (Tryz.strings_Cut (bs l) ⟨#[46, 46]⟩ m w (by rw [bs_size]; omega) hm).mono ?_
 have hd : (bs l).data.toList = l := by unfold bs; simp
 rintro e w' ⟨rfl, n, rfl⟩
 rw [hd, show (⟨#[46, 46]⟩ : ByteArray).data.toList = [46, 46] from rfl, libcut_at h]
 exact ⟨rfl, below_drewN (Below.refl _ _) n⟩
theorem dCut_no {l : List UInt8} (h : NoCut l) (hl : l.length ≤ 900) (w : World) (hL : LaidRn w) :
 Calls Tryz.prog 99 #[.string (bs l), .string ⟨#[46, 46]⟩] w fun e w' => e = .returned (.tuple #[.string (bs l), .string ⟨#[]⟩, .bool false]) ∧ Below w.heap.size w w' := by
 obtain ⟨m, hm⟩ := hL.mx
 refine (Tryz.strings_Cut (bs l) ⟨#[46, 46]⟩ m w (by rw [bs_size]; omega) hm).mono ?_
 have hd : (bs l).data.toList = l := by unfold bs; simp
 rintro e w' ⟨rfl, n, rfl⟩
 rw [hd, show (⟨#[46, 46]⟩ : ByteArray).data.toList = [46, 46] from rfl, libcut_no h]
 exact ⟨rfl, below_drewN (Below.refl _ _) n⟩
theorem ParE.err {l : List UInt8} {f d c : Int} (h : ParE l f d c) : c = 0 ∨ c = 5 ∨ c = 15 := by
 by_cases h1 : l = infL
 ·exact .inl (h.inf h1).2.2
 ·by_cases h2 : l = minfL
  ·exact .inl (h.minf h2).2.2
  ·by_cases h3 : Form l
   ·by_cases h4 : -9223372036854775808 ≤ textVal l ∧ textVal l ≤ 9223372036854775807
    ·exact .inl (h.fits h1 h2 h3 h4).2.2
    ·exact .inr (.inr (h.over h1 h2 h3 h4).2.2)
   ·exact .inr (.inl (h.no h1 h2 h3).2.2)
end Go.Proofs.YtndjcmclmhoigaaGreatDoor
namespace Go.Proofs.YtndjcmclmhoigaaGreatDoor
open Go.RowKit
set_option maxRecDepth 100000

set_option maxHeartbeats 1000000 in
theorem dCmp_is {f d g e v : Int} (hv : cmpE f d g e = v) (w : World) :
 Calls Tryz.prog 75 #[.agg #[.int .i8 f, .int .i64 d], .agg #[.int .i8 g, .int .i64 e]] w fun x w' => x = .returned (.int .i64 v) ∧ Below w.heap.size w w' := by
 have HA := Kp.mk (eb_two w f d g e).1
 have HC := Kp.mk (eb_two w f d g e).2
 unfold cmpE at hv
 rcases cmpI_cases f g with ⟨h, h1⟩ | ⟨h, h1⟩ | ⟨h, h1⟩
 ·rw [h1, if_neg (by decide)] at hv
  subst hv
  have t1 : (f == g) = false := by rw [beq_eq_false_iff_ne]; omega
  clear h1
  go_enter Tryz.func75, Tryz.ntmps75
  go_upto_region 1 with fail
  generalize (w.alloc (.cells #[.int .i8 f, .int .i64 d] 24)).alloc (.cells #[.int .i8 g, .int .i64 e] 24) = w0 at *
  have k0 := HA.out.c0
  have k1 := HA.out.c1
  have k2 := HC.out.c0
  have k3 := HC.out.c1
  go_wp2_with fail
  go_ret
  exact ⟨rfl, HA.out.below⟩
 ·rw [h1, if_pos rfl] at hv
  subst h
  clear h1
  rcases cmpI_cases d e with ⟨h, h1⟩ | ⟨h, h1⟩ | ⟨h, h1⟩
  ·rw [h1] at hv
   subst hv
   have t1 : (d == e) = false := by rw [beq_eq_false_iff_ne]; omega
   clear h1
   go_enter Tryz.func75, Tryz.ntmps75
   go_upto_region 1 with fail
   generalize (w.alloc (.cells #[.int .i8 f, .int .i64 d] 24)).alloc (.cells #[.int .i8 f, .int .i64 e] 24) = w0 at *
   have k0 := HA.out.c0
   have k1 := HA.out.c1
   have k2 := HC.out.c0
   have k3 := HC.out.c1
   go_wp2_with fail
   go_ret
   exact ⟨rfl, HA.out.below⟩
  ·rw [h1] at hv
   subst hv
   subst h
   clear h1
   go_enter Tryz.func75, Tryz.ntmps75
   go_upto_region 1 with fail
   generalize (w.alloc (.cells #[.int .i8 f, .int .i64 d] 24)).alloc (.cells #[.int .i8 f, .int .i64 d] 24) = w0 at *
   have k0 := HA.out.c0
   have k1 := HA.out.c1
   have k2 := HC.out.c0
   have k3 := HC.out.c1
   go_wp2_with fail
   go_ret
   exact ⟨rfl, HA.out.below⟩
  ·rw [h1] at hv
   subst hv
   have t1 : (d == e) = false := by rw [beq_eq_false_iff_ne]; omega
   have t2 : ¬ d < e := by omega
   clear h1
   go_enter Tryz.func75, Tryz.ntmps75
   go_upto_region 1 with fail
   generalize (w.alloc (.cells #[.int .i8 f, .int .i64 d] 24)).alloc (.cells #[.int .i8 f, .int .i64 e] 24) = w0 at *
   have k0 := HA.out.c0
   have k1 := HA.out.c1
   have k2 := HC.out.c0
   have k3 := HC.out.c1
   go_wp2_with fail
   go_ret
   exact ⟨rfl, HA.out.below⟩
 ·rw [h1, if_neg (by decide)] at hv
  subst hv
  have t1 : (f == g) = false := by rw [beq_eq_false_iff_ne]; omega
  have t2 : ¬ f < g := by omega
  clear h1 h
  go_enter Tryz.func75, Tryz.ntmps75
  go_upto_region 1 with fail
  generalize (w.alloc (.cells #[.int .i8 f, .int .i64 d] 24)).alloc (.cells #[.int .i8 g, .int .i64 e] 24) = w0 at *
  have k0 := HA.out.c0
  have k1 := HA.out.c1
  have k2 := HC.out.c0
  have k3 := HC.out.c1
  go_wp2_with fail
  go_ret
  exact ⟨rfl, HA.out.below⟩
set_option maxHeartbeats 1000000 in
theorem dMin_lt {f d g e : Int} (hv : cmpE f d g e = -1) (w : World) :
 Calls Tryz.prog 79 #[.agg #[.int .i8 f, .int .i64 d], .agg #[.int .i8 g, .int .i64 e]] w fun x w' => x = .returned (.agg #[.int .i8 f, .int .i64 d]) ∧ Below w.heap.size w w' := by
 have H0 : Below ((w.alloc (.cells #[.int .i8 f, .int .i64 d] 24)).alloc (.cells #[.int .i8 g, .int .i64 e] 24)).heap.size ((w.alloc (.cells #[.int .i8 f, .int .i64 d] 24)).alloc (.cells #[.int .i8 g, .int .i64 e] 24)) (((w.alloc (.cells #[.int .i8 f, .int .i64 d] 24)).alloc (.cells #[.int .i8 g, .int .i64 e] 24)).alloc (.cells #[.int .i8 0, .int .i64 0] 24)) := (Below.refl _ _).alloc (Nat.le_refl _) _
 have HA := Kp.mk ((eb_two w f d g e).1.step H0)
 have HC := Kp.mk ((eb_two w f d g e).2.step H0)
 have HR : Kp (ERow w (w.heap.size + 1 + 1) 0 0 (((w.alloc (.cells #[.int .i8 f, .int .i64 d] 24)).alloc (.cells #[.int .i8 g, .int .i64 e] 24)).alloc (.cells #[.int .i8 0, .int .i64 0] 24))) := Kp.mk (by
  have := erow_new 0 0 (eb_two w f d g e).1.below
  rw [World.size_alloc, World.size_alloc] at this
  exact this)
 clear H0
 have r1 := Kp.mk (fun w => dCmp_is hv w)
 clear hv
 go_enter Tryz.func79, Tryz.ntmps79
 go_upto_region 1 with fail
 generalize ((w.alloc (.cells #[.int .i8 f, .int .i64 d] 24)).alloc (.cells #[.int .i8 g, .int .i64 e] 24)).alloc (.cells #[.int .i8 0, .int .i64 0] 24) = w0 at *
 have k0 := HA.out.c0
 have k1 := HA.out.c1
 have k2 := HC.out.c0
 have k3 := HC.out.c1
 go_wp2_with fail
 refine (r1.out _).mono ?_
 rintro e' w1 ⟨rfl, hbl⟩
 have HA := Kp.mk (HA.out.step hbl)
 have HC := Kp.mk (HC.out.step hbl)
 have HR := Kp.mk (HR.out.step hbl)
 clear hbl k0 k1 k2 k3
 have k0 := HA.out.c0
 have k1 := HA.out.c1
 have k2 := HC.out.c0
 have k3 := HC.out.c1
 go_wp2_with (first
  | refine wpList_store_row' rfl 24 (.tmp 4) (.tmp 9) rfl (w.heap.size + 1 + 1) #[.int .i8 f, .int .i64 d] rfl rfl 24 #[.int .i8 0, .int .i64 0] HR.out.heap infoEnd rfl (two_one _ _) ?_)
 refine bodyPost_ret (results_one_cell (p := 4) (ty := 24) rfl _ _ (w.heap.size + 1 + 1) 24 #[.int .i8 f, .int .i64 d] (0, 0) _ rfl (setRow_heap _ _ _ _ _ _ HR.out.heap) Tryz.underlying24 rfl infoEnd) rfl ?_
 exact ⟨rfl, below_setRow HR.out.below HR.out.base _⟩
set_option maxHeartbeats 1000000 in
theorem dMin_ge {f d g e : Int} {v : Int} (hv : cmpE f d g e = v) (h : ¬ v < 0) (w : World) :
 Calls Tryz.prog 79 #[.agg #[.int .i8 f, .int .i64 d], .agg #[.int .i8 g, .int .i64 e]] w fun x w' => x = .returned (.agg #[.int .i8 g, .int .i64 e]) ∧ Below w.heap.size w w' := by
 have H0 : Below ((w.alloc (.cells #[.int .i8 f, .int .i64 d] 24)).alloc (.cells #[.int .i8 g, .int .i64 e] 24)).heap.size ((w.alloc (.cells #[.int .i8 f, .int .i64 d] 24)).alloc (.cells #[.int .i8 g, .int .i64 e] 24)) (((w.alloc (.cells #[.int .i8 f, .int .i64 d] 24)).alloc (.cells #[.int .i8 g, .int .i64 e] 24)).alloc (.cells #[.int .i8 0, .int .i64 0] 24)) := (Below.refl _ _).alloc (Nat.le_refl _) _
 have HA := Kp.mk ((eb_two w f d g e).1.step H0)
 have HC := Kp.mk ((eb_two w f d g e).2.step H0)
 have HR : Kp (ERow w (w.heap.size + 1 + 1) 0 0 (((w.alloc (.cells #[.int .i8 f, .int .i64 d] 24)).alloc (.cells #[.int .i8 g, .int .i64 e] 24)).alloc (.cells #[.int .i8 0, .int .i64 0] 24))) := Kp.mk (by
  have := erow_new 0 0 (eb_two w f d g e).1.below
  rw [World.size_alloc, World.size_alloc] at this
  exact this)
 clear H0
 have r1 := Kp.mk (fun w => dCmp_is hv w)
 clear hv
 go_enter Tryz.func79, Tryz.ntmps79
 go_upto_region 1 with fail
 generalize ((w.alloc (.cells #[.int .i8 f, .int .i64 d] 24)).alloc (.cells #[.int .i8 g, .int .i64 e] 24)).alloc (.cells #[.int .i8 0, .int .i64 0] 24) = w0 at *
 have k0 := HA.out.c0
 have k1 := HA.out.c1
 have k2 := HC.out.c0
 have k3 := HC.out.c1
 go_wp2_with fail
 refine (r1.out _).mono ?_
 rintro e' w1 ⟨rfl, hbl⟩
 have HA := Kp.mk (HA.out.step hbl)
 have HC := Kp.mk (HC.out.step hbl)
 have HR := Kp.mk (HR.out.step hbl)
 clear hbl k0 k1 k2 k3
 have k0 := HA.out.c0
 have k1 := HA.out.c1
 have k2 := HC.out.c0
 have k3 := HC.out.c1
 go_wp2_with (first
  | refine wpList_store_row' rfl 24 (.tmp 4) (.tmp 10) rfl (w.heap.size + 1 + 1) #[.int .i8 g, .int .i64 e] rfl rfl 24 #[.int .i8 0, .int .i64 0] HR.out.heap infoEnd rfl (two_one _ _) ?_)
 refine bodyPost_ret (results_one_cell (p := 4) (ty := 24) rfl _ _ (w.heap.size + 1 + 1) 24 #[.int .i8 g, .int .i64 e] (0, 0) _ rfl (setRow_heap _ _ _ _ _ _ HR.out.heap) Tryz.underlying24 rfl infoEnd) rfl ?_
 exact ⟨rfl, below_setRow HR.out.below HR.out.base _⟩
set_option maxHeartbeats 1000000 in
theorem dMax_gt {f d g e : Int} (hv : cmpE f d g e = 1) (w : World) :
 Calls Tryz.prog 80 #[.agg #[.int .i8 f, .int .i64 d], .agg #[.int .i8 g, .int .i64 e]] w fun x w' => x = .returned (.agg #[.int .i8 f, .int .i64 d]) ∧ Below w.heap.size w w' := by
 have H0 : Below ((w.alloc (.cells #[.int .i8 f, .int .i64 d] 24)).alloc (.cells #[.int .i8 g, .int .i64 e] 24)).heap.size ((w.alloc (.cells #[.int .i8 f, .int .i64 d] 24)).alloc (.cells #[.int .i8 g, .int .i64 e] 24)) (((w.alloc (.cells #[.int .i8 f, .int .i64 d] 24)).alloc (.cells #[.int .i8 g, .int .i64 e] 24)).alloc (.cells #[.int .i8 0, .int .i64 0] 24)) := (Below.refl _ _).alloc (Nat.le_refl _) _
 have HA := Kp.mk ((eb_two w f d g e).1.step H0)
 have HC := Kp.mk ((eb_two w f d g e).2.step H0)
 have HR : Kp (ERow w (w.heap.size + 1 + 1) 0 0 (((w.alloc (.cells #[.int .i8 f, .int .i64 d] 24)).alloc (.cells #[.int .i8 g, .int .i64 e] 24)).alloc (.cells #[.int .i8 0, .int .i64 0] 24))) := Kp.mk (by
  have := erow_new 0 0 (eb_two w f d g e).1.below
  rw [World.size_alloc, World.size_alloc] at this
  exact this)
 clear H0
 have r1 := Kp.mk (fun w => dCmp_is hv w)
 clear hv
 go_enter Tryz.func80, Tryz.ntmps80
 go_upto_region 1 with fail
 generalize ((w.alloc (.cells #[.int .i8 f, .int .i64 d] 24)).alloc (.cells #[.int .i8 g, .int .i64 e] 24)).alloc (.cells #[.int .i8 0, .int .i64 0] 24) = w0 at *
 have k0 := HA.out.c0
 have k1 := HA.out.c1
 have k2 := HC.out.c0
 have k3 := HC.out.c1
 go_wp2_with fail
 refine (r1.out _).mono ?_
 rintro e' w1 ⟨rfl, hbl⟩
 have HA := Kp.mk (HA.out.step hbl)
 have HC := Kp.mk (HC.out.step hbl)
 have HR := Kp.mk (HR.out.step hbl)
 clear hbl k0 k1 k2 k3
 have k0 := HA.out.c0
 have k1 := HA.out.c1
 have k2 := HC.out.c0
 have k3 := HC.out.c1
 go_wp2_with (first
  | refine wpList_store_row' rfl 24 (.tmp 4) (.tmp 9) rfl (w.heap.size + 1 + 1) #[.int .i8 f, .int .i64 d] rfl rfl 24 #[.int .i8 0, .int .i64 0] HR.out.heap infoEnd rfl (two_one _ _) ?_)
 refine bodyPost_ret (results_one_cell (p := 4) (ty := 24) rfl _ _ (w.heap.size + 1 + 1) 24 #[.int .i8 f, .int .i64 d] (0, 0) _ rfl (setRow_heap _ _ _ _ _ _ HR.out.heap) Tryz.underlying24 rfl infoEnd) rfl ?_
 exact ⟨rfl, below_setRow HR.out.below HR.out.base _⟩
set_option maxHeartbeats 1000000 in
theorem dMax_le {f d g e : Int} {v : Int} (hv : cmpE f d g e = v) (h : ¬ 0 < v) (w : World) :
 Calls Tryz.prog 80 #[.agg #[.int .i8 f, .int .i64 d], .agg #[.int .i8 g, .int .i64 e]] w fun x w' => x = .returned (.agg #[.int .i8 g, .int .i64 e]) ∧ Below w.heap.size w w' := by
 have H0 : Below ((w.alloc (.cells #[.int .i8 f, .int .i64 d] 24)).alloc (.cells #[.int .i8 g, .int .i64 e] 24)).heap.size ((w.alloc (.cells #[.int .i8 f, .int .i64 d] 24)).alloc (.cells #[.int .i8 g, .int .i64 e] 24)) (((w.alloc (.cells #[.int .i8 f, .int .i64 d] 24)).alloc (.cells #[.int .i8 g, .int .i64 e] 24)).alloc (.cells #[.int .i8 0, .int .i64 0] 24)) := (Below.refl _ _).alloc (Nat.le_refl _) _
 have HA := Kp.mk ((eb_two w f d g e).1.step H0)
 have HC := Kp.mk ((eb_two w f d g e).2.step H0)
 have HR : Kp (ERow w (w.heap.size + 1 + 1) 0 0 (((w.alloc (.cells #[.int .i8 f, .int .i64 d] 24)).alloc (.cells #[.int .i8 g, .int .i64 e] 24)).alloc (.cells #[.int .i8 0, .int .i64 0] 24))) := Kp.mk (by
  have := erow_new 0 0 (eb_two w f d g e).1.below
  rw [World.size_alloc, World.size_alloc] at this
  exact this)
 clear H0
 have r1 := Kp.mk (fun w => dCmp_is hv w)
 clear hv
 go_enter Tryz.func80, Tryz.ntmps80
 go_upto_region 1 with fail
 generalize ((w.alloc (.cells #[.int .i8 f, .int .i64 d] 24)).alloc (.cells #[.int .i8 g, .int .i64 e] 24)).alloc (.cells #[.int .i8 0, .int .i64 0] 24) = w0 at *
 have k0 := HA.out.c0
 have k1 := HA.out.c1
 have k2 := HC.out.c0
 have k3 := HC.out.c1
 go_wp2_with fail
 refine (r1.out _).mono ?_
 rintro e' w1 ⟨rfl, hbl⟩
 have HA := Kp.mk (HA.out.step hbl)
 have HC := Kp.mk (HC.out.step hbl)
 have HR := Kp.mk (HR.out.step hbl)
 clear hbl k0 k1 k2 k3
 have k0 := HA.out.c0
 have k1 := HA.out.c1
 have k2 := HC.out.c0
 have k3 := HC.out.c1
 go_wp2_with (first
  | refine wpList_store_row' rfl 24 (.tmp 4) (.tmp 10) rfl (w.heap.size + 1 + 1) #[.int .i8 g, .int .i64 e] rfl rfl 24 #[.int .i8 0, .int .i64 0] HR.out.heap infoEnd rfl (two_one _ _) ?_)
 refine bodyPost_ret (results_one_cell (p := 4) (ty := 24) rfl _ _ (w.heap.size + 1 + 1) 24 #[.int .i8 g, .int .i64 e] (0, 0) _ rfl (setRow_heap _ _ _ _ _ _ HR.out.heap) Tryz.underlying24 rfl infoEnd) rfl ?_
 exact ⟨rfl, below_setRow HR.out.below HR.out.base _⟩
set_option maxHeartbeats 1000000 in
theorem dStep_bad {f d k c : Int} (hc : chkE f d = c) (h0 : ¬ c = 0) (w : World) (hL : LaidEn w) :
 Calls Tryz.prog 159 #[.agg #[.int .i8 f, .int .i64 d], .int .i64 k] w fun x w' => x = .returned (.tuple #[.agg #[.int .i8 0, .int .i64 0], .int .i64 c]) ∧ Below w.heap.size w w' := by
 have HA := Kp.mk (eb_two w f d 0 0).1
 have HR : Kp (ERow w (w.heap.size + 1) 0 0 ((w.alloc (.cells #[.int .i8 f, .int .i64 d] 24)).alloc (.cells #[.int .i8 0, .int .i64 0] 24))) := Kp.mk (by
  have := erow_new 0 0 (eb_new f d 24 (Below.refl w.heap.size w)).below
  rw [World.size_alloc] at this
  exact this)
 have r1 := Kp.mk (fun v (h : Below w.heap.size w v) => dChk_is hc v (hL.below h))
 clear hc hL
 go_enter Tryz.func159, Tryz.ntmps159
 go_upto_region 1 with fail
 generalize (w.alloc (.cells #[.int .i8 f, .int .i64 d] 24)).alloc (.cells #[.int .i8 0, .int .i64 0] 24) = w0 at *
 have k0 := HA.out.c0
 have k1 := HA.out.c1
 go_wp2_with fail
 refine (r1.out _ HR.out.below).mono ?_
 rintro e' w1 ⟨rfl, hbl⟩
 have HA := Kp.mk (HA.out.step hbl)
 have HR := Kp.mk (HR.out.step hbl)
 clear hbl k0 k1
 have k0 := HA.out.c0
 have k1 := HA.out.c1
 go_wp2_with (first
  | refine wpList_store_row' rfl 24 (.tmp 4) (.tmp 13) rfl (w.heap.size + 1) #[.int .i8 0, .int .i64 0] rfl rfl 24 #[.int .i8 0, .int .i64 0] HR.out.heap infoEnd rfl (two_one _ _) ?_)
 refine bodyPost_ret (results_cell_tmp (p := 4) (ty := 24) rfl _ _ (w.heap.size + 1) 24 #[.int .i8 0, .int .i64 0] (0, 0) _ rfl (setRow_heap _ _ _ _ _ _ HR.out.heap) Tryz.underlying24 rfl infoEnd) rfl ?_
 exact ⟨rfl, below_setRow HR.out.below HR.out.base _⟩
set_option maxHeartbeats 1000000 in
theorem dStep_inf {f d k : Int} (hc : chkE f d = 0) (h0 : ¬ f = 0) (w : World) (hL : LaidEn w) :
 Calls Tryz.prog 159 #[.agg #[.int .i8 f, .int .i64 d], .int .i64 k] w fun x w' => x = .returned (.tuple #[.agg #[.int .i8 f, .int .i64 d], .int .i64 0]) ∧ Below w.heap.size w w' := by
 have HA := Kp.mk (eb_two w f d 0 0).1
 have HR : Kp (ERow w (w.heap.size + 1) 0 0 ((w.alloc (.cells #[.int .i8 f, .int .i64 d] 24)).alloc (.cells #[.int .i8 0, .int .i64 0] 24))) := Kp.mk (by
  have := erow_new 0 0 (eb_new f d 24 (Below.refl w.heap.size w)).below
  rw [World.size_alloc] at this
  exact this)
 have hi : isInfB f d = true := decide_eq_true (by have := chkE_zero.1 hc; omega)
 have r1 := Kp.mk (fun v (h : Below w.heap.size w v) => dChk_is hc v (hL.below h))
 have r2 := Kp.mk (fun v (h : Below w.heap.size w v) => dInf_is hi v (hL.below h))
 clear hc hL hi h0
 go_enter Tryz.func159, Tryz.ntmps159
 go_upto_region 1 with fail
 generalize (w.alloc (.cells #[.int .i8 f, .int .i64 d] 24)).alloc (.cells #[.int .i8 0, .int .i64 0] 24) = w0 at *
 have k0 := HA.out.c0
 have k1 := HA.out.c1
 go_wp2_with fail
 refine (r1.out _ HR.out.below).mono ?_
 rintro e' w1 ⟨rfl, hbl⟩
 have HA := Kp.mk (HA.out.step hbl)
 have HR := Kp.mk (HR.out.step hbl)
 clear hbl k0 k1
 have k0 := HA.out.c0
 have k1 := HA.out.c1
 go_wp2_with fail
 refine (r2.out _ HR.out.below).mono ?_
 rintro e' w2 ⟨rfl, hbl⟩
 have HA := Kp.mk (HA.out.step hbl)
 have HR := Kp.mk (HR.out.step hbl)
 clear hbl k0 k1
 have k0 := HA.out.c0
 have k1 := HA.out.c1
 go_wp2_with (first
  | refine wpList_store_row' rfl 24 (.tmp 4) (.tmp 17) rfl (w.heap.size + 1) #[.int .i8 f, .int .i64 d] rfl rfl 24 #[.int .i8 0, .int .i64 0] HR.out.heap infoEnd rfl (two_one _ _) ?_)
 refine bodyPost_ret (results_cell_tmp (p := 4) (ty := 24) rfl _ _ (w.heap.size + 1) 24 #[.int .i8 f, .int .i64 d] (0, 0) _ rfl (setRow_heap _ _ _ _ _ _ HR.out.heap) Tryz.underlying24 rfl infoEnd) rfl ?_
 exact ⟨rfl, below_setRow HR.out.below HR.out.base _⟩
set_option maxHeartbeats 1000000 in
theorem dStep_over {d k : Int} (d0 : -9223372036854775808 ≤ d) (d1 : d ≤ 9223372036854775807) (k0 : -9223372036854775808 ≤ k) (k1 : k ≤ 9223372036854775807) (h : ¬ (-9223372036854775808 ≤ d + k ∧ d + k ≤ 9223372036854775807)) (w : World) (hL : LaidEn w) :
 Calls Tryz.prog 159 #[.agg #[.int .i8 0, .int .i64 d], .int .i64 k] w fun x w' => x = .returned (.tuple #[.agg #[.int .i8 0, .int .i64 0], .int .i64 15]) ∧ Below w.heap.size w w' := by
 have HA := Kp.mk (eb_two w 0 d 0 0).1
 have HR : Kp (ERow w (w.heap.size + 1) 0 0 ((w.alloc (.cells #[.int .i8 0, .int .i64 d] 24)).alloc (.cells #[.int .i8 0, .int .i64 0] 24))) := Kp.mk (by
  have := erow_new 0 0 (eb_new 0 d 24 (Below.refl w.heap.size w)).below
  rw [World.size_alloc] at this
  exact this)
 have r1 := Kp.mk (fun v (h : Below w.heap.size w v) => dChk_is (chkE_zero.2 (.inl rfl)) v (hL.below h) (f := 0) (d := d))
 have r2 := Kp.mk (fun v (h : Below w.heap.size w v) => dInf_is (f := 0) (d := d) (b := false) (decide_eq_false (by omega)) v (hL.below h))
 have r3 := Kp.mk (fun v (_ : Below w.heap.size w v) => add_out d k v d0 d1 k0 k1 h)
 clear hL d0 d1 k0 k1 h
 go_enter Tryz.func159, Tryz.ntmps159
 go_upto_region 1 with fail
 generalize (w.alloc (.cells #[.int .i8 0, .int .i64 d] 24)).alloc (.cells #[.int .i8 0, .int .i64 0] 24) = w0 at *
 have k0 := HA.out.c0
 have k1 := HA.out.c1
 go_wp2_with fail
 refine (r1.out _ HR.out.below).mono ?_
 rintro e' w1 ⟨rfl, hbl⟩
 have HA := Kp.mk (HA.out.step hbl)
 have HR := Kp.mk (HR.out.step hbl)
 clear hbl k0 k1
 have k0 := HA.out.c0
 have k1 := HA.out.c1
 go_wp2_with fail
 refine (r2.out _ HR.out.below).mono ?_
 rintro e' w2 ⟨rfl, hbl⟩
 have HA := Kp.mk (HA.out.step hbl)
 have HR := Kp.mk (HR.out.step hbl)
 clear hbl k0 k1
 have k0 := HA.out.c0
 have k1 := HA.out.c1
 go_wp2_with fail
 refine (r3.out _ HR.out.below).mono ?_
 rintro e' w3 ⟨rfl, hbl⟩
 have HA := Kp.mk (HA.out.step hbl)
 have HR := Kp.mk (HR.out.step hbl)
 clear hbl k0 k1
 have k0 := HA.out.c0
 have k1 := HA.out.c1
 go_wp2_with (first
  | refine wpList_store_row' rfl 24 (.tmp 4) (.tmp 27) rfl (w.heap.size + 1) #[.int .i8 0, .int .i64 0] rfl rfl 24 #[.int .i8 0, .int .i64 0] HR.out.heap infoEnd rfl (two_one _ _) ?_)
 refine bodyPost_ret (results_cell_tmp (p := 4) (ty := 24) rfl _ _ (w.heap.size + 1) 24 #[.int .i8 0, .int .i64 0] (0, 0) _ rfl (setRow_heap _ _ _ _ _ _ HR.out.heap) Tryz.underlying24 rfl infoEnd) rfl ?_
 exact ⟨rfl, below_setRow HR.out.below HR.out.base _⟩
set_option maxHeartbeats 1000000 in
theorem dStep_day {d k : Int} (d0 : -9223372036854775808 ≤ d) (d1 : d ≤ 9223372036854775807) (k0 : -9223372036854775808 ≤ k) (k1 : k ≤ 9223372036854775807) (h : -9223372036854775808 ≤ d + k) (h' : d + k ≤ 9223372036854775807) (w : World) (hL : LaidEn w) :
 Calls Tryz.prog 159 #[.agg #[.int .i8 0, .int .i64 d], .int .i64 k] w fun x w' => x = .returned (.tuple #[.agg #[.int .i8 0, .int .i64 (d + k)], .int .i64 0]) ∧ Below w.heap.size w w' := by
 have HA := Kp.mk (eb_two w 0 d 0 0).1
 have HR : Kp (ERow w (w.heap.size + 1) 0 0 ((w.alloc (.cells #[.int .i8 0, .int .i64 d] 24)).alloc (.cells #[.int .i8 0, .int .i64 0] 24))) := Kp.mk (by
  have := erow_new 0 0 (eb_new 0 d 24 (Below.refl w.heap.size w)).below
  rw [World.size_alloc] at this
  exact this)
 have r1 := Kp.mk (fun v (h : Below w.heap.size w v) => dChk_is (chkE_zero.2 (.inl rfl)) v (hL.below h) (f := 0) (d := d))
 have r2 := Kp.mk (fun v (h : Below w.heap.size w v) => dInf_is (f := 0) (d := d) (b := false) (decide_eq_false (by omega)) v (hL.below h))
 have r3 := Kp.mk (fun v (_ : Below w.heap.size w v) => add_in d k v h h' d0 d1 k0 k1)
 have r4 := Kp.mk (fun v (_ : Below w.heap.size w v) => dOf_is (d + k) v)
 clear hL d0 d1 k0 k1 h h'
 go_enter Tryz.func159, Tryz.ntmps159
 go_upto_region 1 with fail
 generalize (w.alloc (.cells #[.int .i8 0, .int .i64 d] 24)).alloc (.cells #[.int .i8 0, .int .i64 0] 24) = w0 at *
 have k0 := HA.out.c0
 have k1 := HA.out.c1
 go_wp2_with fail
 refine (r1.out _ HR.out.below).mono ?_
 rintro e' w1 ⟨rfl, hbl⟩
 have HA := Kp.mk (HA.out.step hbl)
 have HR := Kp.mk (HR.out.step hbl)
 clear hbl k0 k1
 have k0 := HA.out.c0
 have k1 := HA.out.c1
 go_wp2_with fail
 refine (r2.out _ HR.out.below).mono ?_
 rintro e' w2 ⟨rfl, hbl⟩
 have HA := Kp.mk (HA.out.step hbl)
 have HR := Kp.mk (HR.out.step hbl)
 clear hbl k0 k1
 have k0 := HA.out.c0
 have k1 := HA.out.c1
 go_wp2_with fail
 refine (r3.out _ HR.out.below).mono ?_
 rintro e' w3 ⟨rfl, hbl⟩
 have HA := Kp.mk (HA.out.step hbl)
 have HR := Kp.mk (HR.out.step hbl)
 clear hbl k0 k1
 have k0 := HA.out.c0
 have k1 := HA.out.c1
 go_wp2_with fail
 refine (r4.out _ HR.out.below).mono ?_
 rintro e' w4 ⟨rfl, hbl⟩
 have HA := Kp.mk (HA.out.step hbl)
 have HR := Kp.mk (HR.out.step hbl)
 clear hbl k0 k1
 have k0 := HA.out.c0
 have k1 := HA.out.c1
 go_wp2_with (first
  | refine wpList_store_row' rfl 24 (.tmp 4) (.tmp 30) rfl (w.heap.size + 1) #[.int .i8 0, .int .i64 (d + k)] rfl rfl 24 #[.int .i8 0, .int .i64 0] HR.out.heap infoEnd rfl (two_one _ _) ?_)
 refine bodyPost_ret (results_cell_tmp (p := 4) (ty := 24) rfl _ _ (w.heap.size + 1) 24 #[.int .i8 0, .int .i64 (d + k)] (0, 0) _ rfl (setRow_heap _ _ _ _ _ _ HR.out.heap) Tryz.underlying24 rfl infoEnd) rfl ?_
 exact ⟨rfl, below_setRow HR.out.below HR.out.base _⟩
theorem dNext_isS {f d g e c : Int} (h : StepE true f d g e c) (d0 : -9223372036854775808 ≤ d) (d1 : d ≤ 9223372036854775807) (w : World) (hL : LaidEn w) :
 Calls Tryz.prog 159 #[.agg #[.int .i8 f, .int .i64 d], .int .i64 1] w fun x w' => x = .returned (.tuple #[.agg #[.int .i8 g, .int .i64 e], .int .i64 c]) ∧ Below w.heap.size w w' := by
 by_cases h0 : chkE f d = 0
 ·by_cases h1 : f = 0
  ·subst h1
   by_cases h2 : d = 9223372036854775807
   ·obtain ⟨rfl, rfl, rfl⟩ := h.over rfl h2
    exact dStep_over d0 d1 (by decide) (by decide) (by omega) w hL
   ·obtain ⟨rfl, he, rfl⟩ := h.day rfl h2
    have he : e = d + 1 := by rw [he]; simp; try omega
    subst he
    exact dStep_day d0 d1 (by decide) (by decide) (by omega) (by omega) w hL
  ·obtain ⟨rfl, rfl, rfl⟩ := h.inf h0 h1
   exact dStep_inf h0 h1 w hL
 ·obtain ⟨rfl, rfl, rfl⟩ := h.bad h0
  have h5 : chkE f d = 5 := by unfold chkE at h0 ⊢; split at h0 <;> first | omega | (rw [if_neg (by assumption)])
  exact dStep_bad h5 (by decide) w hL
set_option maxHeartbeats 1000000 in
theorem dNext_is {f d g e c : Int} (h : StepE true f d g e c) (d0 : -9223372036854775808 ≤ d) (d1 : d ≤ 9223372036854775807) (w : World) (hL : LaidEn w) :
 Calls Tryz.prog 129 #[.agg #[.int .i8 f, .int .i64 d]] w fun x w' => x = .returned (.tuple #[.agg #[.int .i8 g, .int .i64 e], .int .i64 c]) ∧ Below w.heap.size w w' := by
 have HA := Kp.mk (eb_two w f d 0 0).1
 have HR : Kp (ERow w (w.heap.size + 1) 0 0 ((w.alloc (.cells #[.int .i8 f, .int .i64 d] 24)).alloc (.cells #[.int .i8 0, .int .i64 0] 24))) := Kp.mk (by
  have := erow_new 0 0 (eb_new f d 24 (Below.refl w.heap.size w)).below
  rw [World.size_alloc] at this
  exact this)
 have r1 := Kp.mk (fun v (hv : Below w.heap.size w v) => dNext_isS h d0 d1 v (hL.below hv))
 clear h d0 d1 hL
 go_enter Tryz.func129, Tryz.ntmps129
 go_upto_region 1 with fail
 generalize (w.alloc (.cells #[.int .i8 f, .int .i64 d] 24)).alloc (.cells #[.int .i8 0, .int .i64 0] 24) = w0 at *
 have k0 := HA.out.c0
 have k1 := HA.out.c1
 go_wp2_with fail
 refine (r1.out _ HR.out.below).mono ?_
 rintro e' w1 ⟨rfl, hbl⟩
 have HA := Kp.mk (HA.out.step hbl)
 have HR := Kp.mk (HR.out.step hbl)
 clear hbl k0 k1
 have k0 := HA.out.c0
 have k1 := HA.out.c1
 go_wp2_with (first
  | refine wpList_store_row' rfl 24 (.tmp 2) (.tmp 6) rfl (w.heap.size + 1) #[.int .i8 g, .int .i64 e] rfl rfl 24 #[.int .i8 0, .int .i64 0] HR.out.heap infoEnd rfl (two_one _ _) ?_)
 refine bodyPost_ret (results_cell_tmp (p := 2) (ty := 24) rfl _ _ (w.heap.size + 1) 24 #[.int .i8 g, .int .i64 e] (0, 0) _ rfl (setRow_heap _ _ _ _ _ _ HR.out.heap) Tryz.underlying24 rfl infoEnd) rfl ?_
 exact ⟨rfl, below_setRow HR.out.below HR.out.base _⟩
end Go.Proofs.YtndjcmclmhoigaaGreatDoor
