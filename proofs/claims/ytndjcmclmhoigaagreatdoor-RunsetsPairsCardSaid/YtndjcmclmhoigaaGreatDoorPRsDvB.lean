/-
 DERIVED. CONTRACTS of package runsets (the developers' functions): behind, ahead, rest, reach. Written by mkrsd2.py.
-/
import Derived.Test.YtndjcmclmhoigaaGreatDoorPRsDvA
import Derived.Test.YtndjcmclmhoigaaGreatDoorPC1
namespace Go.Proofs.YtndjcmclmhoigaaGreatDoor
open Go.RowKit
set_option maxRecDepth 100000

variable {w W W' : World} {a b : Option Addr} {l m : List Rn}
/-- two results, the second a struct in a block -/
theorem results_tmp_cell {P : Program} {fn : Func} {p u : Tmp} {ty : TypeId} (h : fn.results = #[.tmp u, .cell p ty]) (tmps : Array Value) (w : World) (g : Nat) (t : TypeId) (cs : Array Value) (fr : Nat × Nat) (d : TypeDesc)
 (hp : tmps.getD p undef = .pointer (some ⟨g, 0, none⟩)) (hg : w.heap[g]? = some (.cells cs t fr))
 (hu : P.underlying ty = some d) (hd : (match d with | .struct _ | .array _ _ => true | _ => false) = true) (hi : (P.info? ty).map (·.size) = some cs.size) :
 (results fn tmps).run P w = .ok (.tuple #[tmps.getD u undef, .agg cs]) w := by
 have hp' : tmps[p]?.getD undef = .pointer (some ⟨g, 0, none⟩) := by simpa using hp
 simp [results, h, hp', asAddr, run_loadVar_row w g t ty cs fr d hg hu hd hi]
theorem Ob.frozen {k : Nat} {t : TypeId} {cs : Array Value} (h : Ob w k t cs W) (j : Nat) : W.frozen? ⟨k, j, none⟩ = false := frozen_of_row W _ j _ _ h.heap
theorem Ob.put1 {k : Nat} {t : TypeId} {x : Value} (y : Value) (h : Ob w k t #[x] W) : Ob w k t #[y] (W.setCell ⟨k, 0, none⟩ y) :=
 ⟨h.below.setCell (p := ⟨k, 0, none⟩) h.base y, h.base, heap_setCell_same W k _ _ _ y h.heap⟩
theorem Ob.put2 {k : Nat} {t : TypeId} {x x' : Value} (y y' : Value) (h : Ob w k t #[x, x'] W) : Ob w k t #[y, y'] ((W.setCell ⟨k, 0, none⟩ y).setCell ⟨k, 1, none⟩ y') :=
 ⟨(h.below.setCell (p := ⟨k, 0, none⟩) h.base y).setCell (p := ⟨k, 1, none⟩) h.base y', h.base, heap_setCell_same _ k _ _ _ y' (heap_setCell_same W k _ _ _ y h.heap)⟩
set_option maxHeartbeats 4000000 in
theorem dBe_low (w : World) (hL : LaidRs w) :
 Calls Tryz.prog 150 #[.agg #[.int .i8 (-1), .int .i64 0]] w fun x w' => x = .returned (.agg #[.int .i8 0, .int .i64 (-9223372036854775808)]) ∧ Below w.heap.size w w' := by
 have H0 := (Below.refl (w.alloc (.cells #[.int .i8 (-1), .int .i64 0] 24)).heap.size (w.alloc (.cells #[.int .i8 (-1), .int .i64 0] 24))).alloc (Nat.le_refl _) (.cells #[.int .i8 0, .int .i64 0] 24)
 have HA := Kp.mk ((eb_new (-1) 0 24 (Below.refl w.heap.size w)).step H0)
 have HR : Kp (Ob w (w.heap.size + 1) 24 #[.int .i8 0, .int .i64 0] ((w.alloc (.cells #[.int .i8 (-1), .int .i64 0] 24)).alloc (.cells #[.int .i8 0, .int .i64 0] 24))) := Kp.mk (by
  have h := ob_new 24 #[.int .i8 0, .int .i64 0] (eb_new (w := w) (-1) 0 24 (Below.refl w.heap.size w)).below
  rwa [World.size_alloc] at h)
 have HB := Kp.mk (Bl.mk HR.out.below)
 have HL := Kp.mk (hL.below HR.out.below)
 clear H0
 have r1 : Kp (∀ u, Below w.heap.size w u → Calls Tryz.prog 83 #[.int .i64 (-9223372036854775808)] u fun e w' => e = .returned (.agg #[.int .i8 0, .int .i64 (-9223372036854775808)]) ∧ Below u.heap.size u w') := Kp.mk (fun u hw => dOf_is _ u)
 clear hL
 go_enter Tryz.func150, Tryz.ntmps150
 go_upto_region 1 with fail
 generalize (w.alloc (.cells #[.int .i8 (-1), .int .i64 0] 24)).alloc (.cells #[.int .i8 0, .int .i64 0] 24) = w0 at *
 have k0 := HA.out.c0
 have k1 := HA.out.c1
 have q0 := HL.out.f0
 have q1 := HL.out.f1
 have p0 := HL.out.l0
 have p1 := HL.out.l1
 go_wp2_with fail
 refine (r1.out _ HB.out.below).mono ?_
 rintro e v1 ⟨rfl, hb⟩
 clear k0 k1 q0 q1 p0 p1
 have HB := Kp.mk (HB.out.step hb)
 have HA := Kp.mk (HA.out.step hb)
 have HR := Kp.mk (HR.out.step hb)
 have HL := Kp.mk (HL.out.below hb)
 clear hb
 have k0 := HA.out.c0
 have k1 := HA.out.c1
 have q0 := HL.out.f0
 have q1 := HL.out.f1
 have p0 := HL.out.l0
 have p1 := HL.out.l1
 clear k0 k1 q0 q1 p0 p1
 go_wp2_with (first
  | refine wpList_store_row' rfl 24 (.tmp 2) (.tmp 8) rfl (w.heap.size + 1) #[.int .i8 0, .int .i64 (-9223372036854775808)] rfl rfl 24 #[.int .i8 0, .int .i64 0] HR.out.heap infoEnd rfl (two_one _ _) ?_)
 refine bodyPost_ret (results_one_cell (p := 2) (ty := 24) rfl _ _ (w.heap.size + 1) 24 #[.int .i8 0, .int .i64 (-9223372036854775808)] (0, 0) _ rfl (setRow_heap _ _ _ _ _ _ HR.out.heap) Tryz.underlying24 rfl infoEnd) rfl ?_
 exact ⟨rfl, below_setRow HR.out.below HR.out.base _⟩
set_option maxHeartbeats 4000000 in
theorem dBe_edge (w : World) (hL : LaidRs w) :
 Calls Tryz.prog 150 #[.agg #[.int .i8 0, .int .i64 9223372036854775807]] w fun x w' => x = .returned (.agg #[.int .i8 1, .int .i64 0]) ∧ Below w.heap.size w w' := by
 have H0 := (Below.refl (w.alloc (.cells #[.int .i8 0, .int .i64 9223372036854775807] 24)).heap.size (w.alloc (.cells #[.int .i8 0, .int .i64 9223372036854775807] 24))).alloc (Nat.le_refl _) (.cells #[.int .i8 0, .int .i64 0] 24)
 have HA := Kp.mk ((eb_new 0 9223372036854775807 24 (Below.refl w.heap.size w)).step H0)
 have HR : Kp (Ob w (w.heap.size + 1) 24 #[.int .i8 0, .int .i64 0] ((w.alloc (.cells #[.int .i8 0, .int .i64 9223372036854775807] 24)).alloc (.cells #[.int .i8 0, .int .i64 0] 24))) := Kp.mk (by
  have h := ob_new 24 #[.int .i8 0, .int .i64 0] (eb_new (w := w) 0 9223372036854775807 24 (Below.refl w.heap.size w)).below
  rwa [World.size_alloc] at h)
 have HB := Kp.mk (Bl.mk HR.out.below)
 have HL := Kp.mk (hL.below HR.out.below)
 clear H0
 have hs : StepE true 0 (9223372036854775807) 0 0 15 := ⟨fun h => absurd (chkE_zero.2 (.inl rfl)) h, fun _ h => absurd rfl h, fun _ _ => ⟨rfl, rfl, rfl⟩, fun _ h => absurd rfl h⟩
 have r1 : Kp (∀ u, Below w.heap.size w u → Calls Tryz.prog 129 #[.agg #[.int .i8 0, .int .i64 9223372036854775807]] u fun e w' => e = .returned (.tuple #[.agg #[.int .i8 0, .int .i64 0], .int .i64 15]) ∧ Below u.heap.size u w') := Kp.mk (fun u hw => endCoreN.next u (hL.en.below hw) (by omega) (by omega) hs)
 clear hL hs
 go_enter Tryz.func150, Tryz.ntmps150
 go_upto_region 1 with fail
 generalize (w.alloc (.cells #[.int .i8 0, .int .i64 9223372036854775807] 24)).alloc (.cells #[.int .i8 0, .int .i64 0] 24) = w0 at *
 have k0 := HA.out.c0
 have k1 := HA.out.c1
 have q0 := HL.out.f0
 have q1 := HL.out.f1
 have p0 := HL.out.l0
 have p1 := HL.out.l1
 go_wp2_with fail
 refine (r1.out _ HB.out.below).mono ?_
 rintro e v1 ⟨rfl, hb⟩
 clear k0 k1 q0 q1 p0 p1
 have HB := Kp.mk (HB.out.step hb)
 have HA := Kp.mk (HA.out.step hb)
 have HR := Kp.mk (HR.out.step hb)
 have HL := Kp.mk (HL.out.below hb)
 clear hb
 have k0 := HA.out.c0
 have k1 := HA.out.c1
 have q0 := HL.out.f0
 have q1 := HL.out.f1
 have p0 := HL.out.l0
 have p1 := HL.out.l1
 go_upto_region 4 with fail
 clear k0 k1 q0 q1 p0 p1
 have hb := (Below.refl v1.heap.size v1).alloc (Nat.le_refl _) (.cells #[.int .i8 0, .int .i64 0] 24)
 have HR := Kp.mk (HR.out.step hb)
 have HL := Kp.mk (HL.out.below hb)
 clear hb HA HB r1
 generalize v1.alloc (.cells #[.int .i8 0, .int .i64 0] 24) = v2 at *
 have q0 := HL.out.f0
 have q1 := HL.out.f1
 have p0 := HL.out.l0
 have p1 := HL.out.l1
 go_wp2_with (first
  | refine wpList_store_row' rfl 24 (.tmp 2) (.tmp 16) rfl (w.heap.size + 1) #[.int .i8 1, .int .i64 0] rfl rfl 24 #[.int .i8 0, .int .i64 0] HR.out.heap infoEnd rfl (two_one _ _) ?_)
 refine bodyPost_ret (results_one_cell (p := 2) (ty := 24) rfl _ _ (w.heap.size + 1) 24 #[.int .i8 1, .int .i64 0] (0, 0) _ rfl (setRow_heap _ _ _ _ _ _ HR.out.heap) Tryz.underlying24 rfl infoEnd) rfl ?_
 exact ⟨rfl, below_setRow HR.out.below HR.out.base _⟩
set_option maxHeartbeats 4000000 in
theorem dBe_day {d : Int} (d0 : -9223372036854775808 ≤ d) (d1 : d < 9223372036854775807) (w : World) (hL : LaidRs w) :
 Calls Tryz.prog 150 #[.agg #[.int .i8 0, .int .i64 d]] w fun x w' => x = .returned (.agg #[.int .i8 0, .int .i64 (d + 1)]) ∧ Below w.heap.size w w' := by
 have H0 := (Below.refl (w.alloc (.cells #[.int .i8 0, .int .i64 d] 24)).heap.size (w.alloc (.cells #[.int .i8 0, .int .i64 d] 24))).alloc (Nat.le_refl _) (.cells #[.int .i8 0, .int .i64 0] 24)
 have HA := Kp.mk ((eb_new 0 d 24 (Below.refl w.heap.size w)).step H0)
 have HR : Kp (Ob w (w.heap.size + 1) 24 #[.int .i8 0, .int .i64 0] ((w.alloc (.cells #[.int .i8 0, .int .i64 d] 24)).alloc (.cells #[.int .i8 0, .int .i64 0] 24))) := Kp.mk (by
  have h := ob_new 24 #[.int .i8 0, .int .i64 0] (eb_new (w := w) 0 d 24 (Below.refl w.heap.size w)).below
  rwa [World.size_alloc] at h)
 have HB := Kp.mk (Bl.mk HR.out.below)
 have HL := Kp.mk (hL.below HR.out.below)
 clear H0
 have hs : StepE true 0 d 0 (d + 1) 0 := ⟨fun h => absurd (chkE_zero.2 (.inl rfl)) h, fun _ h => absurd rfl h, fun _ h => absurd h (by simp; omega), fun _ _ => ⟨rfl, by simp, rfl⟩⟩
 obtain ⟨n, hn⟩ : ∃ n, d + 1 = n := ⟨_, rfl⟩
 rw [hn] at hs
 have r1 : Kp (∀ u, Below w.heap.size w u → Calls Tryz.prog 129 #[.agg #[.int .i8 0, .int .i64 d]] u fun e w' => e = .returned (.tuple #[.agg #[.int .i8 0, .int .i64 n], .int .i64 0]) ∧ Below u.heap.size u w') := Kp.mk (fun u hw => endCoreN.next u (hL.en.below hw) (by omega) (by omega) hs)
 clear hL hs d0 d1
 rw [hn]
 clear hn
 go_enter Tryz.func150, Tryz.ntmps150
 go_upto_region 1 with fail
 generalize (w.alloc (.cells #[.int .i8 0, .int .i64 d] 24)).alloc (.cells #[.int .i8 0, .int .i64 0] 24) = w0 at *
 have k0 := HA.out.c0
 have k1 := HA.out.c1
 have q0 := HL.out.f0
 have q1 := HL.out.f1
 have p0 := HL.out.l0
 have p1 := HL.out.l1
 go_wp2_with fail
 refine (r1.out _ HB.out.below).mono ?_
 rintro e v1 ⟨rfl, hb⟩
 clear k0 k1 q0 q1 p0 p1
 have HB := Kp.mk (HB.out.step hb)
 have HA := Kp.mk (HA.out.step hb)
 have HR := Kp.mk (HR.out.step hb)
 have HL := Kp.mk (HL.out.below hb)
 clear hb
 have k0 := HA.out.c0
 have k1 := HA.out.c1
 have q0 := HL.out.f0
 have q1 := HL.out.f1
 have p0 := HL.out.l0
 have p1 := HL.out.l1
 go_upto_region 4 with fail
 clear k0 k1 q0 q1 p0 p1
 have hb := (Below.refl v1.heap.size v1).alloc (Nat.le_refl _) (.cells #[.int .i8 0, .int .i64 n] 24)
 have HR := Kp.mk (HR.out.step hb)
 have HX := Kp.mk (eb_new 0 n 24 HB.out.below)
 clear hb HA HB r1 HL
 generalize v1.alloc (.cells #[.int .i8 0, .int .i64 n] 24) = v2 at *
 generalize v1.heap.size = gx at *
 have k0 := HX.out.c0
 have k1 := HX.out.c1
 go_wp2_with (first
  | refine wpList_store_row' rfl 24 (.tmp 2) (.tmp 17) rfl (w.heap.size + 1) #[.int .i8 0, .int .i64 n] rfl rfl 24 #[.int .i8 0, .int .i64 0] HR.out.heap infoEnd rfl (two_one _ _) ?_)
 refine bodyPost_ret (results_one_cell (p := 2) (ty := 24) rfl _ _ (w.heap.size + 1) 24 #[.int .i8 0, .int .i64 n] (0, 0) _ rfl (setRow_heap _ _ _ _ _ _ HR.out.heap) Tryz.underlying24 rfl infoEnd) rfl ?_
 exact ⟨rfl, below_setRow HR.out.below HR.out.base _⟩
set_option maxHeartbeats 4000000 in
theorem dAh_edge (w : World) (hL : LaidRs w) :
 Calls Tryz.prog 167 #[.agg #[.int .i8 0, .int .i64 (-9223372036854775808)]] w fun x w' => x = .returned (.agg #[.int .i8 (-1), .int .i64 0]) ∧ Below w.heap.size w w' := by
 have H0 := (Below.refl (w.alloc (.cells #[.int .i8 0, .int .i64 (-9223372036854775808)] 24)).heap.size (w.alloc (.cells #[.int .i8 0, .int .i64 (-9223372036854775808)] 24))).alloc (Nat.le_refl _) (.cells #[.int .i8 0, .int .i64 0] 24)
 have HA := Kp.mk ((eb_new 0 (-9223372036854775808) 24 (Below.refl w.heap.size w)).step H0)
 have HR : Kp (Ob w (w.heap.size + 1) 24 #[.int .i8 0, .int .i64 0] ((w.alloc (.cells #[.int .i8 0, .int .i64 (-9223372036854775808)] 24)).alloc (.cells #[.int .i8 0, .int .i64 0] 24))) := Kp.mk (by
  have h := ob_new 24 #[.int .i8 0, .int .i64 0] (eb_new (w := w) 0 (-9223372036854775808) 24 (Below.refl w.heap.size w)).below
  rwa [World.size_alloc] at h)
 have HB := Kp.mk (Bl.mk HR.out.below)
 have HL := Kp.mk (hL.below HR.out.below)
 clear H0
 have hs : StepE false 0 (-9223372036854775808) 0 0 15 := ⟨fun h => absurd (chkE_zero.2 (.inl rfl)) h, fun _ h => absurd rfl h, fun _ _ => ⟨rfl, rfl, rfl⟩, fun _ h => absurd rfl h⟩
 have r1 : Kp (∀ u, Below w.heap.size w u → Calls Tryz.prog 192 #[.agg #[.int .i8 0, .int .i64 (-9223372036854775808)]] u fun e w' => e = .returned (.tuple #[.agg #[.int .i8 0, .int .i64 0], .int .i64 15]) ∧ Below u.heap.size u w') := Kp.mk (fun u hw => dPrev_is hs (by omega) (by omega) u (hL.en.below hw))
 clear hL hs
 go_enter Tryz.func167, Tryz.ntmps167
 go_upto_region 1 with fail
 generalize (w.alloc (.cells #[.int .i8 0, .int .i64 (-9223372036854775808)] 24)).alloc (.cells #[.int .i8 0, .int .i64 0] 24) = w0 at *
 have k0 := HA.out.c0
 have k1 := HA.out.c1
 have q0 := HL.out.f0
 have q1 := HL.out.f1
 have p0 := HL.out.l0
 have p1 := HL.out.l1
 go_wp2_with fail
 refine (r1.out _ HB.out.below).mono ?_
 rintro e v1 ⟨rfl, hb⟩
 clear k0 k1 q0 q1 p0 p1
 have HB := Kp.mk (HB.out.step hb)
 have HA := Kp.mk (HA.out.step hb)
 have HR := Kp.mk (HR.out.step hb)
 have HL := Kp.mk (HL.out.below hb)
 clear hb
 have k0 := HA.out.c0
 have k1 := HA.out.c1
 have q0 := HL.out.f0
 have q1 := HL.out.f1
 have p0 := HL.out.l0
 have p1 := HL.out.l1
 go_upto_region 2 with fail
 clear k0 k1 q0 q1 p0 p1
 have hb := (Below.refl v1.heap.size v1).alloc (Nat.le_refl _) (.cells #[.int .i8 0, .int .i64 0] 24)
 have HR := Kp.mk (HR.out.step hb)
 have HL := Kp.mk (HL.out.below hb)
 clear hb HA HB r1
 generalize v1.alloc (.cells #[.int .i8 0, .int .i64 0] 24) = v2 at *
 have q0 := HL.out.f0
 have q1 := HL.out.f1
 have p0 := HL.out.l0
 have p1 := HL.out.l1
 go_wp2_with (first
  | refine wpList_store_row' rfl 24 (.tmp 2) (.tmp 12) rfl (w.heap.size + 1) #[.int .i8 (-1), .int .i64 0] rfl rfl 24 #[.int .i8 0, .int .i64 0] HR.out.heap infoEnd rfl (two_one _ _) ?_)
 refine bodyPost_ret (results_one_cell (p := 2) (ty := 24) rfl _ _ (w.heap.size + 1) 24 #[.int .i8 (-1), .int .i64 0] (0, 0) _ rfl (setRow_heap _ _ _ _ _ _ HR.out.heap) Tryz.underlying24 rfl infoEnd) rfl ?_
 exact ⟨rfl, below_setRow HR.out.below HR.out.base _⟩
set_option maxHeartbeats 4000000 in
theorem dAh_day {d : Int} (d0 : -9223372036854775808 < d) (d1 : d ≤ 9223372036854775807) (w : World) (hL : LaidRs w) :
 Calls Tryz.prog 167 #[.agg #[.int .i8 0, .int .i64 d]] w fun x w' => x = .returned (.agg #[.int .i8 0, .int .i64 (d - 1)]) ∧ Below w.heap.size w w' := by
 have H0 := (Below.refl (w.alloc (.cells #[.int .i8 0, .int .i64 d] 24)).heap.size (w.alloc (.cells #[.int .i8 0, .int .i64 d] 24))).alloc (Nat.le_refl _) (.cells #[.int .i8 0, .int .i64 0] 24)
 have HA := Kp.mk ((eb_new 0 d 24 (Below.refl w.heap.size w)).step H0)
 have HR : Kp (Ob w (w.heap.size + 1) 24 #[.int .i8 0, .int .i64 0] ((w.alloc (.cells #[.int .i8 0, .int .i64 d] 24)).alloc (.cells #[.int .i8 0, .int .i64 0] 24))) := Kp.mk (by
  have h := ob_new 24 #[.int .i8 0, .int .i64 0] (eb_new (w := w) 0 d 24 (Below.refl w.heap.size w)).below
  rwa [World.size_alloc] at h)
 have HB := Kp.mk (Bl.mk HR.out.below)
 have HL := Kp.mk (hL.below HR.out.below)
 clear H0
 have hs : StepE false 0 d 0 (d - 1) 0 := ⟨fun h => absurd (chkE_zero.2 (.inl rfl)) h, fun _ h => absurd rfl h, fun _ h => absurd h (by simp; omega), fun _ _ => ⟨rfl, by simp, rfl⟩⟩
 obtain ⟨n, hn⟩ : ∃ n, d - 1 = n := ⟨_, rfl⟩
 rw [hn] at hs
 have r1 : Kp (∀ u, Below w.heap.size w u → Calls Tryz.prog 192 #[.agg #[.int .i8 0, .int .i64 d]] u fun e w' => e = .returned (.tuple #[.agg #[.int .i8 0, .int .i64 n], .int .i64 0]) ∧ Below u.heap.size u w') := Kp.mk (fun u hw => dPrev_is hs (by omega) (by omega) u (hL.en.below hw))
 clear hL hs d0 d1
 rw [hn]
 clear hn
 go_enter Tryz.func167, Tryz.ntmps167
 go_upto_region 1 with fail
 generalize (w.alloc (.cells #[.int .i8 0, .int .i64 d] 24)).alloc (.cells #[.int .i8 0, .int .i64 0] 24) = w0 at *
 have k0 := HA.out.c0
 have k1 := HA.out.c1
 have q0 := HL.out.f0
 have q1 := HL.out.f1
 have p0 := HL.out.l0
 have p1 := HL.out.l1
 go_wp2_with fail
 refine (r1.out _ HB.out.below).mono ?_
 rintro e v1 ⟨rfl, hb⟩
 clear k0 k1 q0 q1 p0 p1
 have HB := Kp.mk (HB.out.step hb)
 have HA := Kp.mk (HA.out.step hb)
 have HR := Kp.mk (HR.out.step hb)
 have HL := Kp.mk (HL.out.below hb)
 clear hb
 have k0 := HA.out.c0
 have k1 := HA.out.c1
 have q0 := HL.out.f0
 have q1 := HL.out.f1
 have p0 := HL.out.l0
 have p1 := HL.out.l1
 go_upto_region 2 with fail
 clear k0 k1 q0 q1 p0 p1
 have hb := (Below.refl v1.heap.size v1).alloc (Nat.le_refl _) (.cells #[.int .i8 0, .int .i64 n] 24)
 have HR := Kp.mk (HR.out.step hb)
 have HX := Kp.mk (eb_new 0 n 24 HB.out.below)
 clear hb HA HB r1 HL
 generalize v1.alloc (.cells #[.int .i8 0, .int .i64 n] 24) = v2 at *
 generalize v1.heap.size = gx at *
 have k0 := HX.out.c0
 have k1 := HX.out.c1
 go_wp2_with (first
  | refine wpList_store_row' rfl 24 (.tmp 2) (.tmp 13) rfl (w.heap.size + 1) #[.int .i8 0, .int .i64 n] rfl rfl 24 #[.int .i8 0, .int .i64 0] HR.out.heap infoEnd rfl (two_one _ _) ?_)
 refine bodyPost_ret (results_one_cell (p := 2) (ty := 24) rfl _ _ (w.heap.size + 1) 24 #[.int .i8 0, .int .i64 n] (0, 0) _ rfl (setRow_heap _ _ _ _ _ _ HR.out.heap) Tryz.underlying24 rfl infoEnd) rfl ?_
 exact ⟨rfl, below_setRow HR.out.below HR.out.base _⟩
/-- the end behind another one, by its rank -/
theorem dBehind_rk {q : Int} (q0 : -9223372036854775809 ≤ q) (q1 : q < 9223372036854775808) (w : World) (hL : LaidRs w) :
 Calls Tryz.prog 150 #[.agg #[.int .i8 (eF q), .int .i64 (eD q)]] w fun x w' => x = .returned (.agg #[.int .i8 (eF (q + 1)), .int .i64 (eD (q + 1))]) ∧ Below w.heap.size w w' := by
 have c1 := e_cases q
 have c2 := e_cases (q + 1)
 by_cases h1 : q < -9223372036854775808
 ·rw [show eF q = -1 by omega, show eD q = 0 by omega, show eF (q + 1) = 0 by omega, show eD (q + 1) = -9223372036854775808 by omega]
  exact dBe_low w hL
 ·by_cases h2 : q = 9223372036854775807
  ·rw [show eF q = 0 by omega, show eD q = 9223372036854775807 by omega, show eF (q + 1) = 1 by omega, show eD (q + 1) = 0 by omega]
   exact dBe_edge w hL
  ·rw [show eF q = 0 by omega, show eD q = q by omega, show eF (q + 1) = 0 by omega, show eD (q + 1) = q + 1 by omega]
   exact dBe_day (by omega) (by omega) w hL
/-- the end ahead of a day, by its rank -/
theorem dAhead_rk {q : Int} (q0 : -9223372036854775808 ≤ q) (q1 : q ≤ 9223372036854775807) (w : World) (hL : LaidRs w) :
 Calls Tryz.prog 167 #[.agg #[.int .i8 (eF q), .int .i64 (eD q)]] w fun x w' => x = .returned (.agg #[.int .i8 (eF (q - 1)), .int .i64 (eD (q - 1))]) ∧ Below w.heap.size w w' := by
 have c1 := e_cases q
 have c2 := e_cases (q - 1)
 by_cases h2 : q = -9223372036854775808
 ·rw [show eF q = 0 by omega, show eD q = -9223372036854775808 by omega, show eF (q - 1) = -1 by omega, show eD (q - 1) = 0 by omega]
  exact dAh_edge w hL
 ·rw [show eF q = 0 by omega, show eD q = q by omega, show eF (q - 1) = 0 by omega, show eD (q - 1) = q - 1 by omega]
  exact dAh_day (by omega) (by omega) w hL
theorem LaidRs.step {w w' : World} (h : LaidRs w) (hb : Below w.heap.size w w') : LaidRs w' := h.below hb
theorem At4.cs {g o : Nat} {r : Rn} (h : At4 W g o r) : W.cell? ⟨g, o, none⟩ = some (.int .i8 r.f) ∧ W.cell? ⟨g, o + 1, none⟩ = some (.int .i64 r.d) ∧ W.cell? ⟨g, o + 2, none⟩ = some (.int .i8 r.g) ∧ W.cell? ⟨g, o + 3, none⟩ = some (.int .i64 r.e) := ⟨h.c0, h.c1, h.c2, h.c3⟩
theorem Lr.head {g o : Nat} {r : Rn} {t : List Rn} (h : Lr w (some ⟨g, o, none⟩) (r :: t) W) : At4 W g o r := by
 have h1 := h.cells (p := 0) (r := r) rfl
 rwa [Nat.zero_mul, Nat.add_zero] at h1
theorem Eb.cs {g : Nat} {f d : Int} (h : Eb w g f d W) : W.cell? ⟨g, 0, none⟩ = some (.int .i8 f) ∧ W.cell? ⟨g, 1, none⟩ = some (.int .i64 d) := ⟨h.c0, h.c1⟩
/-- how many elements a slice has -/
def lenV : Value → Nat | .slice _ n _ => n | _ => 0
/-- a list that is read, with room for it -/
structure Arc (w : World) (a : Option Addr) (l : List Rn) (c : Nat) : Prop where
 lr : Lr w a l w
 inl : ∀ r, r ∈ l → r.In
 room : l.length ≤ c
 len : l.length ≤ maxLen
theorem Arc.here {t : List Rn} {c : Nat} (h : Arc w a t c) (hb : Below w.heap.size w W) : Lr w a t W := h.lr.step hb
theorem Arc.tail {r : Rn} {t : List Rn} {c : Nat} (h : Arc w a (r :: t) c) : ∃ b, (∀ W, (Instr.slice 60 (.slice a (t.length + 1) c) (some (.int .i64 1)) none none).run Tryz.prog W = .ok (.slice b t.length (c - 1)) W) ∧ Arc w b t (c - 1) := by
 have hr := h.room
 have hn := h.len
 rw [List.length_cons] at hr hn
 refine ⟨if c = 1 then a else a.map (·.add (1 * 4)), fun W => ?_, ⟨⟨Below.refl _ _, fun p x hp => ?_⟩, fun x hx => h.inl x (List.mem_cons.2 (.inr hx)), by omega, by omega⟩⟩
 ·rw [run_slice_l (P := Tryz.prog) W 60 a (t.length + 1) c elemRn .i64 1 (by omega) (by omega), sizeRn]
  show Result.ok (sliced a 1 (t.length + 1) c 4) W = _
  unfold sliced
  rw [Nat.add_sub_cancel]
 ·have hlt := (List.getElem?_eq_some_iff.1 hp).1
  obtain ⟨g, o, rfl, hg, hc⟩ := h.lr.at4 (p + 1) x (by simpa using hp)
  rw [if_neg (by omega)]
  refine ⟨g, o + 1 * 4, ?_, hg, by rw [show o + 1 * 4 + p * 4 = o + (p + 1) * 4 by omega]; exact hc⟩
  show some ((⟨g, o, none⟩ : Addr).add (1 * 4)) = _
  unfold Addr.add
  rw [if_neg (by omega)]
set_option maxHeartbeats 4000000 in
theorem dRest_is {t : List Rn} {q : Int} {c : Nat} (hc : RsCan l) (q0 : -9223372036854775809 ≤ q) (q1 : q ≤ 9223372036854775808) (hA : Arc w a t c) (hR : Rest l t q) (w' : World) (hb : Below w.heap.size w w') :
 Calls Tryz.prog 148 #[.slice a t.length c, .agg #[.int .i8 (eF q), .int .i64 (eD q)]] w' fun x W => (∃ b t' c', x = .returned (.slice b t'.length c') ∧ Arc w b t' c' ∧ Rest l t' q ∧ Head t' q) ∧ Below w'.heap.size w' W := by
 have HX := Kp.mk (eb_new (eF q) (eD q) 24 (Below.refl w'.heap.size w'))
 have HW := Kp.mk hb
 have HC := Kp.mk hc
 have HQ := Kp.mk (And.intro q0 q1)
 obtain ⟨n0, hn0⟩ : ∃ n, t.length = n := ⟨_, rfl⟩
 have HS : Kp (t.length = n0 ∧ Arc w a t c ∧ Rest l t q) := Kp.mk ⟨hn0, hA, hR⟩
 obtain ⟨ef, hef⟩ : ∃ x, eF q = x := ⟨_, rfl⟩
 obtain ⟨ed, hed⟩ : ∃ x, eD q = x := ⟨_, rfl⟩
 have HE := Kp.mk (And.intro hef hed)
 rw [hef, hed] at HX ⊢
 rw [hn0]
 have b0 : n0 ≤ 9223372036854775807 := by have := hA.len; unfold maxLen at this; omega
 clear hb hc hA hR q0 q1 hef hed hn0
 go_enter Tryz.func148, Tryz.ntmps148
 go_upto_region 1 with fail
 generalize w'.alloc (.cells #[.int .i8 ef, .int .i64 ed] 24) = u0 at *
 obtain ⟨gx, hgx⟩ : ∃ gx, w'.heap.size = gx := ⟨_, rfl⟩
 have HG := Kp.mk hgx
 rw [hgx] at HX ⊢
 clear hgx
 go_loopw [0] (fun v wr => ∃ (b : Option Addr) (t' : List Rn) (c' n : Nat), v = .slice b n c' ∧ n ≤ 9223372036854775807 ∧ Kp (t'.length = n ∧ Arc w b t' c' ∧ Rest l t' q) ∧ Kp (Eb w' gx ef ed wr)) (fun v _ => lenV v)
 case atStart => exact ⟨a, t, c, n0, rfl, b0, HS, HX⟩
 case round =>
  clear HS HX b0
  obtain ⟨b, t', c', n, rfl, b0, HS, HX⟩ := hrel
  obtain ⟨HN, HA, HR⟩ := HS.out
  clear HS
  have HL := Kp.mk (HA.here (HW.out.trans (HX.out.below.mono HW.out.size)))
  cases t' with
  | nil =>
   obtain rfl : 0 = n := HN
   have HA := Kp.mk HA
   have HR := Kp.mk HR
   go_upto_region 1 with fail
   have hbl := (Below.refl wr.heap.size wr).drew
   have HLz := Kp.mk (HL.out.step hbl)
   have HXz := Kp.mk (HX.out.step hbl)
   obtain ⟨k0z, k1z⟩ := HXz.out.cs
   clear hbl
   refine wp_region_held_drew (S := fun w' => w'.cell? ⟨gx, 0, none⟩ = some (.int .i8 ef) ∧ w'.cell? ⟨gx, 1, none⟩ = some (.int .i64 ed)) (by kernel_rfl) ?_ (fun hHeld => ?_)
   ·with_reducible exact ⟨k0z, k1z⟩
   refine tk 0 ?_ rfl hHeld ?_ ?_
   rotate_left
   ·(intro w hSw; (try dsimp only at hSw); go_simp; try with_reducible rfl)
   try simp only [pt]
   refine tk 1 ?_ rfl hHeld ?_ ?_
   rotate_left
   ·(intro w hSw; (try dsimp only at hSw); go_simp; try with_reducible rfl)
   try simp only [pt]
   refine tk 2 ?_ rfl hHeld ?_ ?_
   rotate_left
   ·(intro w hSw; (try dsimp only at hSw); go_simp; try with_reducible rfl)
   try simp only [pt]
   refine tk 3 ?_ rfl hHeld ?_ ?_
   rotate_left
   ·(intro w hSw; (try dsimp only at hSw); go_simp; try with_reducible rfl)
   try simp only [pt]
   refine takeOut (i := 4) rfl (by kernel_rfl) (by kernel_rfl) (by kernel_rfl) (fun _ _ _ h => h) (by rfl) hHeld ?_
   try simp only [pt]
   refine takeOut (i := 5) rfl (by kernel_rfl) (by kernel_rfl) (by kernel_rfl) (fun _ _ _ h => h) (by rfl) hHeld ?_
   try simp only [pt]
   refine takeOut (i := 6) rfl (by kernel_rfl) (by kernel_rfl) (by kernel_rfl) (fun _ _ _ h => h) (by rfl) hHeld ?_
   try simp only [pt]
   refine takeOut (i := 7) rfl (by kernel_rfl) (by kernel_rfl) (by kernel_rfl) (fun _ _ _ h => h) (by rfl) hHeld ?_
   try simp only [pt]
   refine takeOut (i := 8) rfl (by kernel_rfl) (by kernel_rfl) (by kernel_rfl) (fun _ _ _ h => h) (by rfl) hHeld ?_
   try simp only [pt]
   refine takeOut (i := 9) rfl (by kernel_rfl) (by kernel_rfl) (by kernel_rfl) (fun _ _ _ h => h) (by rfl) hHeld ?_
   try simp only [pt]
   refine takeOut (i := 10) rfl (by kernel_rfl) (by kernel_rfl) (by kernel_rfl) (fun _ _ _ h => h) (by rfl) hHeld ?_
   try simp only [pt]
   refine tk 11 ?_ rfl hHeld ?_ ?_
   rotate_left
   ·(intro w hSw; (try dsimp only at hSw); go_simp; try with_reducible rfl)
   try simp only [pt]
   refine wpAnyH_done (by kernel_rfl) ?_ _
   clear hHeld
   have HL := HLz
   have HX := HXz
   clear k0z k1z
   go_wp2_with fail
   go_ret
   exact ⟨⟨b, [], c', rfl, HA.out, HR.out, head_nil q⟩, HX.out.below⟩
  | cons r u =>
   rw [List.length_cons] at HN
   have hro := (HR.can HC.out).ok r (by simp)
   have hk := hro.rks
   have hv0 : cmpE r.g r.e ef ed = cmpI (rhi r) q := by
    have h := cmp_e (p := rhi r) (q := q) (by omega) (by omega) HQ.out.1 HQ.out.2
    rw [hk.2.2.2.2.2.2.2.1, hk.2.2.2.2.2.2.2.2, HE.out.1, HE.out.2] at h
    exact h
   obtain ⟨v, hv⟩ : ∃ v, cmpE r.g r.e ef ed = v := ⟨_, rfl⟩
   have rc := Kp.mk (fun u => dCmp_is hv u)
   have hvq : v < 0 ↔ rhi r < q := by rw [← hv, hv0]; rcases cmpI_cases (rhi r) q with h | h | h <;> omega
   obtain ⟨g, s, rfl⟩ := HL.out.place (p := 0) (r := r) rfl
   obtain ⟨d, hd1, hd2⟩ := HA.tail
   rw [HN] at hd1
   have HA := Kp.mk HA
   have HD := Kp.mk hd2
   have HR := Kp.mk HR
   have b1 : 0 < n := by omega
   have b2 : (0 : Int) < (n : Int) := by omega
   have t0n : decide (0 < n) = true := decide_eq_true b1
   have HN := Kp.mk HN
   clear hv hv0 hk hro hd2
   by_cases h1 : v < 0
   ·have h2 := hvq.1 h1
    have HR2 := Kp.mk (HR.out.next h2)
    clear h2 hvq
    go_upto_region 1 with fail
    have hbl := (Below.refl wr.heap.size wr).drew
    have HLz := Kp.mk (HL.out.step hbl)
    have HXz := Kp.mk (HX.out.step hbl)
    obtain ⟨k0z, k1z⟩ := HXz.out.cs
    obtain ⟨k2z, k3z, k4z, k5z⟩ := HLz.out.head.cs
    clear hbl
    refine wp_region_held_drew (S := fun w' => w'.cell? ⟨gx, 0, none⟩ = some (.int .i8 ef) ∧ w'.cell? ⟨gx, 1, none⟩ = some (.int .i64 ed) ∧ w'.cell? ⟨g, s, none⟩ = some (.int .i8 r.f) ∧ w'.cell? ⟨g, s + 1, none⟩ = some (.int .i64 r.d) ∧ w'.cell? ⟨g, s + 2, none⟩ = some (.int .i8 r.g) ∧ w'.cell? ⟨g, s + 3, none⟩ = some (.int .i64 r.e)) (by kernel_rfl) ?_ (fun hHeld => ?_)
    ·with_reducible exact ⟨k0z, k1z, k2z, k3z, k4z, k5z⟩
    refine tk 0 ?_ rfl hHeld ?_ ?_
    rotate_left
    ·(intro w hSw; (try dsimp only at hSw); go_simp; try with_reducible rfl)
    try simp only [pt]
    refine tk 1 ?_ rfl hHeld ?_ ?_
    rotate_left
    ·(intro w hSw; (try dsimp only at hSw); go_simp; try with_reducible rfl)
    try simp only [pt]
    refine tk 2 ?_ rfl hHeld ?_ ?_
    rotate_left
    ·(intro w hSw; (try dsimp only at hSw); go_simp; try with_reducible rfl)
    try simp only [pt]
    refine tk 3 ?_ rfl hHeld ?_ ?_
    rotate_left
    ·(intro w hSw; (try dsimp only at hSw); go_simp; try with_reducible rfl)
    try simp only [pt]
    refine tk 4 ?_ rfl hHeld ?_ ?_
    rotate_left
    ·(intro w hSw; (try dsimp only at hSw); go_simp; try with_reducible rfl)
    try simp only [pt]
    refine tk 5 ?_ rfl hHeld ?_ ?_
    rotate_left
    ·(intro w hSw; (try dsimp only at hSw); go_simp; try with_reducible rfl)
    try simp only [pt]
    refine tk 6 ?_ rfl hHeld ?_ ?_
    rotate_left
    ·(intro w hSw; (try dsimp only at hSw); go_simp; try with_reducible rfl)
    try simp only [pt]
    refine tk 7 ?_ rfl hHeld ?_ ?_
    rotate_left
    ·(intro w hSw; (try dsimp only at hSw); go_simp; try with_reducible rfl)
    try simp only [pt]
    refine tk 8 ?_ rfl hHeld ?_ ?_
    rotate_left
    ·(intro w hSw; (try dsimp only at hSw); go_simp; try with_reducible rfl)
    try simp only [pt]
    refine rd [9] ?_
    refine AllReadyH.cons (dropAt rfl) (fun K hK => ?_) AllReadyH.nil
    go_simp
    go_at_call 75
    with_reducible refine (rc.out _).mono ?_
    rintro e y1 ⟨rfl, hb⟩
    have HL_y1 := Kp.mk (HLz.out.step hb)
    have HX_y1 := Kp.mk (HXz.out.step hb)
    obtain ⟨k0_y1, k1_y1⟩ := HX_y1.out.cs
    obtain ⟨k2_y1, k3_y1, k4_y1, k5_y1⟩ := HL_y1.out.head.cs
    clear hHeld k0z k1z k2z k3z k4z k5z HLz HXz hb
    go_wp2_with fail
    refine hK.out _ _ ?_ (fun hHeld => ?_)
    ·with_reducible exact ⟨k0_y1, k1_y1, k2_y1, k3_y1, k4_y1, k5_y1⟩
    clear hK K
    try simp only [pt]
    refine tk 10 ?_ rfl hHeld ?_ ?_
    rotate_left
    ·(intro w hSw; (try dsimp only at hSw); go_simp; try with_reducible rfl)
    try simp only [pt]
    refine tk 11 ?_ rfl hHeld ?_ ?_
    rotate_left
    ·(intro w hSw; (try dsimp only at hSw); go_simp; try with_reducible rfl)
    try simp only [pt]
    refine wpAnyH_done (by kernel_rfl) ?_ _
    clear hHeld
    have HL := HL_y1
    have HX := HX_y1
    clear k0_y1 k1_y1 k2_y1 k3_y1 k4_y1 k5_y1
    go_wp2_with fail
    go_roundw
    case rel => exact ⟨d, u, c' - 1, u.length, rfl, by have := HN.out; omega, Kp.mk ⟨rfl, HD.out, HR2.out⟩, HX⟩
    case measure => have := HN.out; simp [lenV]; omega
   ·have h2 : Head (r :: u) q := head_cons (by have := mt hvq.2 h1; omega)
    have HH := Kp.mk h2
    clear h2 hvq
    go_upto_region 1 with fail
    have hbl := (Below.refl wr.heap.size wr).drew
    have HLz := Kp.mk (HL.out.step hbl)
    have HXz := Kp.mk (HX.out.step hbl)
    obtain ⟨k0z, k1z⟩ := HXz.out.cs
    obtain ⟨k2z, k3z, k4z, k5z⟩ := HLz.out.head.cs
    clear hbl
    refine wp_region_held_drew (S := fun w' => w'.cell? ⟨gx, 0, none⟩ = some (.int .i8 ef) ∧ w'.cell? ⟨gx, 1, none⟩ = some (.int .i64 ed) ∧ w'.cell? ⟨g, s, none⟩ = some (.int .i8 r.f) ∧ w'.cell? ⟨g, s + 1, none⟩ = some (.int .i64 r.d) ∧ w'.cell? ⟨g, s + 2, none⟩ = some (.int .i8 r.g) ∧ w'.cell? ⟨g, s + 3, none⟩ = some (.int .i64 r.e)) (by kernel_rfl) ?_ (fun hHeld => ?_)
    ·with_reducible exact ⟨k0z, k1z, k2z, k3z, k4z, k5z⟩
    refine tk 0 ?_ rfl hHeld ?_ ?_
    rotate_left
    ·(intro w hSw; (try dsimp only at hSw); go_simp; try with_reducible rfl)
    try simp only [pt]
    refine tk 1 ?_ rfl hHeld ?_ ?_
    rotate_left
    ·(intro w hSw; (try dsimp only at hSw); go_simp; try with_reducible rfl)
    try simp only [pt]
    refine tk 2 ?_ rfl hHeld ?_ ?_
    rotate_left
    ·(intro w hSw; (try dsimp only at hSw); go_simp; try with_reducible rfl)
    try simp only [pt]
    refine tk 3 ?_ rfl hHeld ?_ ?_
    rotate_left
    ·(intro w hSw; (try dsimp only at hSw); go_simp; try with_reducible rfl)
    try simp only [pt]
    refine tk 4 ?_ rfl hHeld ?_ ?_
    rotate_left
    ·(intro w hSw; (try dsimp only at hSw); go_simp; try with_reducible rfl)
    try simp only [pt]
    refine tk 5 ?_ rfl hHeld ?_ ?_
    rotate_left
    ·(intro w hSw; (try dsimp only at hSw); go_simp; try with_reducible rfl)
    try simp only [pt]
    refine tk 6 ?_ rfl hHeld ?_ ?_
    rotate_left
    ·(intro w hSw; (try dsimp only at hSw); go_simp; try with_reducible rfl)
    try simp only [pt]
    refine tk 7 ?_ rfl hHeld ?_ ?_
    rotate_left
    ·(intro w hSw; (try dsimp only at hSw); go_simp; try with_reducible rfl)
    try simp only [pt]
    refine tk 8 ?_ rfl hHeld ?_ ?_
    rotate_left
    ·(intro w hSw; (try dsimp only at hSw); go_simp; try with_reducible rfl)
    try simp only [pt]
    refine rd [9] ?_
    refine AllReadyH.cons (dropAt rfl) (fun K hK => ?_) AllReadyH.nil
    go_simp
    go_at_call 75
    with_reducible refine (rc.out _).mono ?_
    rintro e y1 ⟨rfl, hb⟩
    have HL_y1 := Kp.mk (HLz.out.step hb)
    have HX_y1 := Kp.mk (HXz.out.step hb)
    obtain ⟨k0_y1, k1_y1⟩ := HX_y1.out.cs
    obtain ⟨k2_y1, k3_y1, k4_y1, k5_y1⟩ := HL_y1.out.head.cs
    clear hHeld k0z k1z k2z k3z k4z k5z HLz HXz hb
    go_wp2_with fail
    refine hK.out _ _ ?_ (fun hHeld => ?_)
    ·with_reducible exact ⟨k0_y1, k1_y1, k2_y1, k3_y1, k4_y1, k5_y1⟩
    clear hK K
    try simp only [pt]
    refine tk 10 ?_ rfl hHeld ?_ ?_
    rotate_left
    ·(intro w hSw; (try dsimp only at hSw); go_simp; try with_reducible rfl)
    try simp only [pt]
    refine tk 11 ?_ rfl hHeld ?_ ?_
    rotate_left
    ·(intro w hSw; (try dsimp only at hSw); go_simp; try with_reducible rfl)
    try simp only [pt]
    refine wpAnyH_done (by kernel_rfl) ?_ _
    clear hHeld
    have HL := HL_y1
    have HX := HX_y1
    clear k0_y1 k1_y1 k2_y1 k3_y1 k4_y1 k5_y1
    go_wp2_with fail
    go_ret
    exact ⟨⟨_, r :: u, c', by rw [← HN.out]; rfl, HA.out, HR.out, HH.out⟩, HX.out.below⟩
set_option maxHeartbeats 4000000 in
theorem dReach_no {c : Nat} {ef ed : Int} (w' : World) (hG : LaidRs w') :
 Calls Tryz.prog 149 #[.slice a 0 c, .agg #[.int .i8 ef, .int .i64 ed]] w' fun x W => x = .returned (.tuple #[.bool false, .agg #[.int .i8 1, .int .i64 0]]) ∧ Below w'.heap.size w' W := by
 have H0 := (Below.refl (w'.alloc (.cells #[.int .i8 ef, .int .i64 ed] 24)).heap.size (w'.alloc (.cells #[.int .i8 ef, .int .i64 ed] 24))).alloc (Nat.le_refl _) (.cells #[.int .i8 0, .int .i64 0] 24)
 have HX := Kp.mk ((eb_new ef ed 24 (Below.refl w'.heap.size w')).step H0)
 have HR : Kp (Ob w' (w'.heap.size + 1) 24 #[.int .i8 0, .int .i64 0] ((w'.alloc (.cells #[.int .i8 ef, .int .i64 ed] 24)).alloc (.cells #[.int .i8 0, .int .i64 0] 24))) := Kp.mk (by
  have h := ob_new 24 #[.int .i8 0, .int .i64 0] (eb_new (w := w') ef ed 24 (Below.refl w'.heap.size w')).below
  rwa [World.size_alloc] at h)
 have HG := Kp.mk (hG.below HR.out.below)
 clear H0
 clear hG
 go_enter Tryz.func149, Tryz.ntmps149
 go_upto_region 1 with fail
 generalize (w'.alloc (.cells #[.int .i8 ef, .int .i64 ed] 24)).alloc (.cells #[.int .i8 0, .int .i64 0] 24) = u0 at *
 obtain ⟨g0, hg0⟩ : ∃ g, w'.heap.size = g := ⟨_, rfl⟩
 have HGZ := Kp.mk hg0
 rw [hg0] at HX HR ⊢
 clear hg0
 have z0 := HR.out.cell (j := 0) rfl
 have z1 := HR.out.cell (j := 1) rfl
 have f0 := HR.out.frozen 0
 have f1 := HR.out.frozen 1
 have p0 := HG.out.l0
 have p1 := HG.out.l1
 go_wp2_with fail
 go_region
 all_goals go_wp2_with fail
 all_goals
  refine bodyPost_ret (results_tmp_cell (p := 5) (ty := 24) rfl _ _ (g0 + 1) 24 #[.int .i8 1, .int .i64 0] (0, 0) _ rfl (HR.out.put2 (.int .i8 1) (.int .i64 0)).heap Tryz.underlying24 rfl infoEnd) rfl ?_
  exact ⟨rfl, (HR.out.put2 (.int .i8 1) (.int .i64 0)).below.drew⟩
set_option maxHeartbeats 4000000 in
theorem dReach_lo {w' : World} {c n : Nat} {ef ed : Int} {r : Rn} {t : List Rn} {v : Int} (hn : t.length + 1 = n) (hv : cmpE ef ed r.f r.d = v) {f d : Int} (h1 : v < 0) (ra : Kp (∀ u, Below w'.heap.size w' u → Calls Tryz.prog 167 #[.agg #[.int .i8 r.f, .int .i64 r.d]] u fun e w2 => e = .returned (.agg #[.int .i8 f, .int .i64 d]) ∧ Below u.heap.size u w2)) (hl : Lr w' a (r :: t) w') (hG : LaidRs w') :
 Calls Tryz.prog 149 #[.slice a n c, .agg #[.int .i8 ef, .int .i64 ed]] w' fun x W => x = .returned (.tuple #[.bool false, .agg #[.int .i8 f, .int .i64 d]]) ∧ Below w'.heap.size w' W := by
 have H0 := (Below.refl (w'.alloc (.cells #[.int .i8 ef, .int .i64 ed] 24)).heap.size (w'.alloc (.cells #[.int .i8 ef, .int .i64 ed] 24))).alloc (Nat.le_refl _) (.cells #[.int .i8 0, .int .i64 0] 24)
 have HX := Kp.mk ((eb_new ef ed 24 (Below.refl w'.heap.size w')).step H0)
 have HR : Kp (Ob w' (w'.heap.size + 1) 24 #[.int .i8 0, .int .i64 0] ((w'.alloc (.cells #[.int .i8 ef, .int .i64 ed] 24)).alloc (.cells #[.int .i8 0, .int .i64 0] 24))) := Kp.mk (by
  have h := ob_new 24 #[.int .i8 0, .int .i64 0] (eb_new (w := w') ef ed 24 (Below.refl w'.heap.size w')).below
  rwa [World.size_alloc] at h)
 have HG := Kp.mk (hG.below HR.out.below)
 have HL := Kp.mk (hl.step HR.out.below)
 clear H0
 clear hG
 have b1 : 0 < n := by omega
 have b2 : (0 : Int) < (n : Int) := by omega
 have t0 : ((n : Int) == 0) = false := by rw [beq_eq_false_iff_ne]; omega
 have rc := Kp.mk (fun u => dCmp_is hv u)
 obtain ⟨g, s, rfl⟩ := hl.place (p := 0) (r := r) rfl
 clear hl hn hv
 go_enter Tryz.func149, Tryz.ntmps149
 go_upto_region 1 with fail
 generalize (w'.alloc (.cells #[.int .i8 ef, .int .i64 ed] 24)).alloc (.cells #[.int .i8 0, .int .i64 0] 24) = u0 at *
 obtain ⟨g0, hg0⟩ : ∃ g, w'.heap.size = g := ⟨_, rfl⟩
 have HGZ := Kp.mk hg0
 rw [hg0] at HX HR ⊢
 clear hg0
 go_upto_region 3 with fail
 have hbl := (Below.refl u0.heap.size u0).drew
 have HXz := Kp.mk (HX.out.step hbl)
 have HLz := Kp.mk (HL.out.step hbl)
 have HRz := Kp.mk (HR.out.step hbl)
 have HGz := Kp.mk (HG.out.step hbl)
 obtain ⟨k0z, k1z⟩ := HXz.out.cs
 obtain ⟨k2z, k3z, k4z, k5z⟩ := HLz.out.head.cs
 clear hbl
 refine wp_region_held_drew (S := fun w' => w'.cell? ⟨g0, 0, none⟩ = some (.int .i8 ef) ∧ w'.cell? ⟨g0, 1, none⟩ = some (.int .i64 ed) ∧ w'.cell? ⟨g, s, none⟩ = some (.int .i8 r.f) ∧ w'.cell? ⟨g, s + 1, none⟩ = some (.int .i64 r.d) ∧ w'.cell? ⟨g, s + 2, none⟩ = some (.int .i8 r.g) ∧ w'.cell? ⟨g, s + 3, none⟩ = some (.int .i64 r.e)) (by kernel_rfl) ?_ (fun hHeld => ?_)
 ·with_reducible exact ⟨k0z, k1z, k2z, k3z, k4z, k5z⟩
 refine tk 0 ?_ rfl hHeld ?_ ?_
 rotate_left
 ·(intro w hSw; (try dsimp only at hSw); go_simp; try with_reducible rfl)
 try simp only [pt]
 refine tk 1 ?_ rfl hHeld ?_ ?_
 rotate_left
 ·(intro w hSw; (try dsimp only at hSw); go_simp; try with_reducible rfl)
 try simp only [pt]
 refine tk 2 ?_ rfl hHeld ?_ ?_
 rotate_left
 ·(intro w hSw; (try dsimp only at hSw); go_simp; try with_reducible rfl)
 try simp only [pt]
 refine tk 3 ?_ rfl hHeld ?_ ?_
 rotate_left
 ·(intro w hSw; (try dsimp only at hSw); go_simp; try with_reducible rfl)
 try simp only [pt]
 refine tk 4 ?_ rfl hHeld ?_ ?_
 rotate_left
 ·(intro w hSw; (try dsimp only at hSw); go_simp; try with_reducible rfl)
 try simp only [pt]
 refine rd [5] ?_
 refine AllReadyH.cons (dropAt rfl) (fun K hK => ?_) AllReadyH.nil
 go_simp
 go_at_call 75
 with_reducible refine (rc.out _).mono ?_
 rintro e y1 ⟨rfl, hb⟩
 have HX_y1 := Kp.mk (HXz.out.step hb)
 have HL_y1 := Kp.mk (HLz.out.step hb)
 have HR_y1 := Kp.mk (HRz.out.step hb)
 have HG_y1 := Kp.mk (HGz.out.step hb)
 obtain ⟨k0_y1, k1_y1⟩ := HX_y1.out.cs
 obtain ⟨k2_y1, k3_y1, k4_y1, k5_y1⟩ := HL_y1.out.head.cs
 clear hHeld k0z k1z k2z k3z k4z k5z HXz HLz HRz HGz hb
 go_wp2_with fail
 refine hK.out _ _ ?_ (fun hHeld => ?_)
 ·with_reducible exact ⟨k0_y1, k1_y1, k2_y1, k3_y1, k4_y1, k5_y1⟩
 clear hK K
 try simp only [pt]
 refine tk 6 ?_ rfl hHeld ?_ ?_
 rotate_left
 ·(intro w hSw; (try dsimp only at hSw); go_simp; try with_reducible rfl)
 try simp only [pt]
 refine tk 7 ?_ rfl hHeld ?_ ?_
 rotate_left
 ·(intro w hSw; (try dsimp only at hSw); go_simp; try with_reducible rfl)
 try simp only [pt]
 refine wpAnyH_done (by kernel_rfl) ?_ _
 clear hHeld
 have HX := HX_y1
 have HL := HL_y1
 have HR := HR_y1
 have HG := HG_y1
 clear k0_y1 k1_y1 k2_y1 k3_y1 k4_y1 k5_y1
 obtain ⟨h0, h1, h2, h3⟩ := HL.out.head.cs
 go_wp2_with fail
 refine (ra.out _ (HR.out.below)).mono ?_
 rintro e y2 ⟨rfl, hb⟩
 clear h0 h1 h2 h3
 have HR := Kp.mk (HR.out.step hb)
 clear hb
 go_wp2_with (first
  | refine wpList_store_row' rfl 24 (.tmp 5) (.tmp 23) rfl (g0 + 1) #[.int .i8 f, .int .i64 d] rfl rfl 24 #[.int .i8 0, .int .i64 0] HR.out.heap infoEnd rfl (two_one _ _) ?_)
 refine bodyPost_ret (results_tmp_cell (p := 5) (ty := 24) rfl _ _ (g0 + 1) 24 #[.int .i8 f, .int .i64 d] (0, 0) _ rfl (setRow_heap _ _ _ _ _ _ HR.out.heap) Tryz.underlying24 rfl infoEnd) rfl ?_
 exact ⟨rfl, below_setRow HR.out.below HR.out.base _⟩
set_option maxHeartbeats 4000000 in
theorem dReach_in {w' : World} {c n : Nat} {ef ed : Int} {r : Rn} {t : List Rn} {v : Int} (hn : t.length + 1 = n) (hv : cmpE ef ed r.f r.d = v) (h1 : ¬ v < 0) (hl : Lr w' a (r :: t) w') (hG : LaidRs w') :
 Calls Tryz.prog 149 #[.slice a n c, .agg #[.int .i8 ef, .int .i64 ed]] w' fun x W => x = .returned (.tuple #[.bool true, .agg #[.int .i8 r.g, .int .i64 r.e]]) ∧ Below w'.heap.size w' W := by
 have H0 := (Below.refl (w'.alloc (.cells #[.int .i8 ef, .int .i64 ed] 24)).heap.size (w'.alloc (.cells #[.int .i8 ef, .int .i64 ed] 24))).alloc (Nat.le_refl _) (.cells #[.int .i8 0, .int .i64 0] 24)
 have HX := Kp.mk ((eb_new ef ed 24 (Below.refl w'.heap.size w')).step H0)
 have HR : Kp (Ob w' (w'.heap.size + 1) 24 #[.int .i8 0, .int .i64 0] ((w'.alloc (.cells #[.int .i8 ef, .int .i64 ed] 24)).alloc (.cells #[.int .i8 0, .int .i64 0] 24))) := Kp.mk (by
  have h := ob_new 24 #[.int .i8 0, .int .i64 0] (eb_new (w := w') ef ed 24 (Below.refl w'.heap.size w')).below
  rwa [World.size_alloc] at h)
 have HG := Kp.mk (hG.below HR.out.below)
 have HL := Kp.mk (hl.step HR.out.below)
 clear H0
 clear hG
 have b1 : 0 < n := by omega
 have b2 : (0 : Int) < (n : Int) := by omega
 have t0 : ((n : Int) == 0) = false := by rw [beq_eq_false_iff_ne]; omega
 have rc := Kp.mk (fun u => dCmp_is hv u)
 obtain ⟨g, s, rfl⟩ := hl.place (p := 0) (r := r) rfl
 clear hl hn hv
 go_enter Tryz.func149, Tryz.ntmps149
 go_upto_region 1 with fail
 generalize (w'.alloc (.cells #[.int .i8 ef, .int .i64 ed] 24)).alloc (.cells #[.int .i8 0, .int .i64 0] 24) = u0 at *
 obtain ⟨g0, hg0⟩ : ∃ g, w'.heap.size = g := ⟨_, rfl⟩
 have HGZ := Kp.mk hg0
 rw [hg0] at HX HR ⊢
 clear hg0
 go_upto_region 3 with fail
 have hbl := (Below.refl u0.heap.size u0).drew
 have HXz := Kp.mk (HX.out.step hbl)
 have HLz := Kp.mk (HL.out.step hbl)
 have HRz := Kp.mk (HR.out.step hbl)
 have HGz := Kp.mk (HG.out.step hbl)
 obtain ⟨k0z, k1z⟩ := HXz.out.cs
 obtain ⟨k2z, k3z, k4z, k5z⟩ := HLz.out.head.cs
 clear hbl
 refine wp_region_held_drew (S := fun w' => w'.cell? ⟨g0, 0, none⟩ = some (.int .i8 ef) ∧ w'.cell? ⟨g0, 1, none⟩ = some (.int .i64 ed) ∧ w'.cell? ⟨g, s, none⟩ = some (.int .i8 r.f) ∧ w'.cell? ⟨g, s + 1, none⟩ = some (.int .i64 r.d) ∧ w'.cell? ⟨g, s + 2, none⟩ = some (.int .i8 r.g) ∧ w'.cell? ⟨g, s + 3, none⟩ = some (.int .i64 r.e)) (by kernel_rfl) ?_ (fun hHeld => ?_)
 ·with_reducible exact ⟨k0z, k1z, k2z, k3z, k4z, k5z⟩
 refine tk 0 ?_ rfl hHeld ?_ ?_
 rotate_left
 ·(intro w hSw; (try dsimp only at hSw); go_simp; try with_reducible rfl)
 try simp only [pt]
 refine tk 1 ?_ rfl hHeld ?_ ?_
 rotate_left
 ·(intro w hSw; (try dsimp only at hSw); go_simp; try with_reducible rfl)
 try simp only [pt]
 refine tk 2 ?_ rfl hHeld ?_ ?_
 rotate_left
 ·(intro w hSw; (try dsimp only at hSw); go_simp; try with_reducible rfl)
 try simp only [pt]
 refine tk 3 ?_ rfl hHeld ?_ ?_
 rotate_left
 ·(intro w hSw; (try dsimp only at hSw); go_simp; try with_reducible rfl)
 try simp only [pt]
 refine tk 4 ?_ rfl hHeld ?_ ?_
 rotate_left
 ·(intro w hSw; (try dsimp only at hSw); go_simp; try with_reducible rfl)
 try simp only [pt]
 refine rd [5] ?_
 refine AllReadyH.cons (dropAt rfl) (fun K hK => ?_) AllReadyH.nil
 go_simp
 go_at_call 75
 with_reducible refine (rc.out _).mono ?_
 rintro e y1 ⟨rfl, hb⟩
 have HX_y1 := Kp.mk (HXz.out.step hb)
 have HL_y1 := Kp.mk (HLz.out.step hb)
 have HR_y1 := Kp.mk (HRz.out.step hb)
 have HG_y1 := Kp.mk (HGz.out.step hb)
 obtain ⟨k0_y1, k1_y1⟩ := HX_y1.out.cs
 obtain ⟨k2_y1, k3_y1, k4_y1, k5_y1⟩ := HL_y1.out.head.cs
 clear hHeld k0z k1z k2z k3z k4z k5z HXz HLz HRz HGz hb
 go_wp2_with fail
 refine hK.out _ _ ?_ (fun hHeld => ?_)
 ·with_reducible exact ⟨k0_y1, k1_y1, k2_y1, k3_y1, k4_y1, k5_y1⟩
 clear hK K
 try simp only [pt]
 refine tk 6 ?_ rfl hHeld ?_ ?_
 rotate_left
 ·(intro w hSw; (try dsimp only at hSw); go_simp; try with_reducible rfl)
 try simp only [pt]
 refine tk 7 ?_ rfl hHeld ?_ ?_
 rotate_left
 ·(intro w hSw; (try dsimp only at hSw); go_simp; try with_reducible rfl)
 try simp only [pt]
 refine wpAnyH_done (by kernel_rfl) ?_ _
 clear hHeld
 have HX := HX_y1
 have HL := HL_y1
 have HR := HR_y1
 have HG := HG_y1
 clear k0_y1 k1_y1 k2_y1 k3_y1 k4_y1 k5_y1
 obtain ⟨h0, h1, h2, h3⟩ := HL.out.head.cs
 have z0 := HR.out.cell (j := 0) rfl
 have z1 := HR.out.cell (j := 1) rfl
 have f0 := HR.out.frozen 0
 have f1 := HR.out.frozen 1
 go_wp2_with fail
 go_region
 all_goals go_wp2_with fail
 all_goals
  refine bodyPost_ret (results_tmp_cell (p := 5) (ty := 24) rfl _ _ (g0 + 1) 24 #[.int .i8 r.g, .int .i64 r.e] (0, 0) _ rfl (HR.out.put2 (.int .i8 r.g) (.int .i64 r.e)).heap Tryz.underlying24 rfl infoEnd) rfl ?_
  exact ⟨rfl, (HR.out.put2 (.int .i8 r.g) (.int .i64 r.e)).below.drew⟩
/-- what a set says from an end on, by its rank -/
theorem dReach_rk {t : List Rn} {q : Int} {c : Nat} (hc : RsCan t) (q0 : -9223372036854775809 ≤ q) (q1 : q ≤ 9223372036854775808) (hA : Arc w a t c) (w' : World) (hb : Below w.heap.size w w') (hG : LaidRs w') :
 Calls Tryz.prog 149 #[.slice a t.length c, .agg #[.int .i8 (eF q), .int .i64 (eD q)]] w' fun x W => x = .returned (.tuple #[.bool (reachK t q), .agg #[.int .i8 (eF (reachQ t q)), .int .i64 (eD (reachQ t q))]]) ∧ Below w'.heap.size w' W := by
 cases t with
 | nil =>
  have e1 := e_cases 9223372036854775808
  show Calls _ _ _ _ (fun x W => x = .returned (.tuple #[.bool false, .agg #[.int .i8 (eF 9223372036854775808), .int .i64 (eD 9223372036854775808)]]) ∧ _)
  rw [show eF 9223372036854775808 = 1 by omega, show eD 9223372036854775808 = 0 by omega]
  exact dReach_no w' hG
 | cons r u =>
  have hro := hc.ok r (by simp)
  have hk := hro.rks
  have hv0 : cmpE (eF q) (eD q) r.f r.d = cmpI q (rlo r) := by
   have h := cmp_e (p := q) (q := rlo r) q0 q1 (by omega) (by omega)
   rw [hk.2.2.2.2.2.1, hk.2.2.2.2.2.2.1] at h
   exact h
  have hci := cmpI_cases q (rlo r)
  by_cases hl : q < rlo r
  ·rw [show reachQ (r :: u) q = rlo r - 1 from if_pos hl, show reachK (r :: u) q = false from decide_eq_false (by omega)]
   have ha := fun (x : World) (h : Below w'.heap.size w' x) => dAhead_rk (q := rlo r) (by omega) (by omega) x (hG.below h)
   rw [hk.2.2.2.2.2.1, hk.2.2.2.2.2.2.1] at ha
   exact dReach_lo rfl hv0 (by omega) (Kp.mk ha) (hA.here hb).now hG
  ·rw [show reachQ (r :: u) q = rhi r from if_neg hl, show reachK (r :: u) q = true from decide_eq_true (by omega), hk.2.2.2.2.2.2.2.1, hk.2.2.2.2.2.2.2.2]
   exact dReach_in rfl hv0 (by omega) (hA.here hb).now hG
end Go.Proofs.YtndjcmclmhoigaaGreatDoor
