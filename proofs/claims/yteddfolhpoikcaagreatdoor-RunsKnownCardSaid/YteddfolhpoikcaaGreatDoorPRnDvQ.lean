/-
 DERIVED. CONTRACTS of package runs (the developers' functions): Parse. Written by mkrnd5.py.
-/
import Derived.Test.YteddfolhpoikcaaGreatDoorPRnDvP
import Derived.Test.YteddfolhpoikcaaGreatDoorPRnCut
namespace Go.Proofs.YteddfolhpoikcaaGreatDoor
open Go.RowKit
set_option maxRecDepth 100000

set_option maxHeartbeats 8000000 in
theorem dParse_no {l : List UInt8} (h : NoCut l) (hl : l.length ≤ 130) (w : World) (hL : LaidRn w) :
 Calls Tryz.prog 33 #[.string (bs l)] w fun z w' => z = .returned (.tuple #[.agg #[.int .i8 0, .int .i64 0, .int .i8 0, .int .i64 0], .int .i64 5]) ∧ Below w.heap.size w w' := by
 have HR := Kp.mk (ob_new (w := w) 26 #[.int .i8 0, .int .i64 0, .int .i8 0, .int .i64 0] (Below.refl w.heap.size w))
 have HB := Kp.mk (Bl.mk HR.out.below)
 have r1 : Kp (∀ u, Below w.heap.size w u → Calls Tryz.prog 63 #[.string (bs l), .string ⟨#[46, 46]⟩] u fun e w' => e = .returned (.tuple #[.string (bs l), .string ⟨#[]⟩, .bool false]) ∧ Below u.heap.size u w') := Kp.mk (fun u hw => dCut_no h hl u (hL.below hw))
 clear h hl hL
 generalize bs l = s at *
 go_enter Tryz.func33, Tryz.ntmps33
 go_upto_region 1 with fail
 generalize w.alloc (.cells #[.int .i8 0, .int .i64 0, .int .i8 0, .int .i64 0] 26) = w0 at *
 go_wp2_with fail
 refine (r1.out _ HB.out.below).mono ?_
 rintro e u1 ⟨rfl, hbl⟩
 have HB := Kp.mk (HB.out.step hbl)
 have HR := Kp.mk (HR.out.step hbl)
 clear hbl
 go_wp2_with (first
  | refine wpList_store_row' rfl 26 (.tmp 2) (.tmp 17) rfl (w.heap.size) #[.int .i8 0, .int .i64 0, .int .i8 0, .int .i64 0] rfl rfl 26 #[.int .i8 0, .int .i64 0, .int .i8 0, .int .i64 0] HR.out.heap infoRn rfl (four_rn _ _ _ _) ?_)
 refine bodyPost_ret (results_cell_tmp (p := 2) (ty := 26) rfl _ _ (w.heap.size) 26 #[.int .i8 0, .int .i64 0, .int .i8 0, .int .i64 0] (0, 0) _ rfl (setRow_heap _ _ _ _ _ _ HR.out.heap) Tryz.underlying26 rfl infoRn) rfl ?_
 exact ⟨rfl, below_setRow HR.out.below HR.out.base _⟩
set_option maxHeartbeats 8000000 in
theorem dParse_err {l : List UInt8} {j : Nat} {c : Int} (h : CutAt l j) (hl : l.length ≤ 130) (h0 : ¬ c = 0) (w : World) (hL : LaidRn w)
 (r2 : Kp (∀ u, Below w.heap.size w u → Calls Tryz.prog 64 #[.agg #[.string (bs (l.take j)), .string (bs (l.drop (j + 2)))], .func (.func 65) #[] #[]] u fun e w' => e = .returned (.tuple #[.agg #[.int .i8 0, .int .i64 0, .int .i8 0, .int .i64 0], .int .i64 c]) ∧ Below u.heap.size u w')) :
 Calls Tryz.prog 33 #[.string (bs l)] w fun z w' => z = .returned (.tuple #[.agg #[.int .i8 0, .int .i64 0, .int .i8 0, .int .i64 0], .int .i64 c]) ∧ Below w.heap.size w w' := by
 have HR := Kp.mk (ob_new (w := w) 26 #[.int .i8 0, .int .i64 0, .int .i8 0, .int .i64 0] (Below.refl w.heap.size w))
 have HB := Kp.mk (Bl.mk HR.out.below)
 have r1 : Kp (∀ u, Below w.heap.size w u → Calls Tryz.prog 63 #[.string (bs l), .string ⟨#[46, 46]⟩] u fun e w' => e = .returned (.tuple #[.string (bs (l.take j)), .string (bs (l.drop (j + 2))), .bool true]) ∧ Below u.heap.size u w') := Kp.mk (fun u hw => dCut_at h hl u (hL.below hw))
 have t1 : (c != 0) = true := by rw [bne_iff_ne]; exact h0
 clear h hl hL h0
 generalize bs (l.take j) = s0 at *
 generalize bs (l.drop (j + 2)) = s1 at *
 generalize bs l = s at *
 go_enter Tryz.func33, Tryz.ntmps33
 go_upto_region 1 with fail
 generalize w.alloc (.cells #[.int .i8 0, .int .i64 0, .int .i8 0, .int .i64 0] 26) = w0 at *
 go_wp2_with fail
 refine (r1.out _ HB.out.below).mono ?_
 rintro e u1 ⟨rfl, hbl⟩
 have HB := Kp.mk (HB.out.step hbl)
 have HR := Kp.mk (HR.out.step hbl)
 clear hbl
 go_wp2_with fail
 refine (r2.out _ HB.out.below).mono ?_
 rintro e u2 ⟨rfl, hbl⟩
 have HB := Kp.mk (HB.out.step hbl)
 have HR := Kp.mk (HR.out.step hbl)
 clear hbl
 go_upto_region 5 with fail
 have HX := Kp.mk (rg_zero 71 HB.out.below)
 have hbl := (Below.refl u2.heap.size u2).alloc (Nat.le_refl _) (.cells #[.int .i8 0, .int .i64 0, .int .i8 0, .int .i64 0] 71)
 have HB := Kp.mk (HB.out.step hbl)
 have HR := Kp.mk (HR.out.step hbl)
 clear hbl
 generalize u2.alloc (.cells #[.int .i8 0, .int .i64 0, .int .i8 0, .int .i64 0] 71) = u3 at *
 generalize u2.heap.size = gx at *
 have kHX0 := HX.out.c0
 have kHX1 := HX.out.c1
 have kHX2 := HX.out.c2
 have kHX3 := HX.out.c3
 go_wp2_with (first
  | refine wpList_store_row' rfl 26 (.tmp 2) (.tmp 27) rfl (w.heap.size) #[.int .i8 0, .int .i64 0, .int .i8 0, .int .i64 0] rfl rfl 26 #[.int .i8 0, .int .i64 0, .int .i8 0, .int .i64 0] HR.out.heap infoRn rfl (four_rn _ _ _ _) ?_)
 refine bodyPost_ret (results_cell_tmp (p := 2) (ty := 26) rfl _ _ (w.heap.size) 26 #[.int .i8 0, .int .i64 0, .int .i8 0, .int .i64 0] (0, 0) _ rfl (setRow_heap _ _ _ _ _ _ HR.out.heap) Tryz.underlying26 rfl infoRn) rfl ?_
 exact ⟨rfl, below_setRow HR.out.below HR.out.base _⟩
set_option maxHeartbeats 8000000 in
theorem dParse_run {l : List UInt8} {j : Nat} {c : Int} {r v : Rn} (h : CutAt l j) (hl : l.length ≤ 130) (w : World) (hL : LaidRn w)
 (r2 : Kp (∀ u, Below w.heap.size w u → Calls Tryz.prog 64 #[.agg #[.string (bs (l.take j)), .string (bs (l.drop (j + 2)))], .func (.func 65) #[] #[]] u fun e w' => e = .returned (.tuple #[.agg #[.int .i8 r.f, .int .i64 r.d, .int .i8 r.g, .int .i64 r.e], .int .i64 0]) ∧ Below u.heap.size u w'))
 (r4 : Kp (∀ u, Below w.heap.size w u → Calls Tryz.prog 55 #[.agg #[.int .i8 r.f, .int .i64 r.d, .int .i8 r.g, .int .i64 r.e]] u fun e w' => e = .returned (.tuple #[.agg #[.int .i8 v.f, .int .i64 v.d, .int .i8 v.g, .int .i64 v.e], .int .i64 c]) ∧ Below u.heap.size u w')) :
 Calls Tryz.prog 33 #[.string (bs l)] w fun z w' => z = .returned (.tuple #[.agg #[.int .i8 v.f, .int .i64 v.d, .int .i8 v.g, .int .i64 v.e], .int .i64 c]) ∧ Below w.heap.size w w' := by
 have HR := Kp.mk (ob_new (w := w) 26 #[.int .i8 0, .int .i64 0, .int .i8 0, .int .i64 0] (Below.refl w.heap.size w))
 have HB := Kp.mk (Bl.mk HR.out.below)
 have r1 : Kp (∀ u, Below w.heap.size w u → Calls Tryz.prog 63 #[.string (bs l), .string ⟨#[46, 46]⟩] u fun e w' => e = .returned (.tuple #[.string (bs (l.take j)), .string (bs (l.drop (j + 2))), .bool true]) ∧ Below u.heap.size u w') := Kp.mk (fun u hw => dCut_at h hl u (hL.below hw))
 have r3 : Kp (∀ u, Below w.heap.size w u → Calls Tryz.prog 54 #[.agg #[.int .i8 r.f, .int .i64 r.d, .int .i8 r.g, .int .i64 r.e]] u fun e w' => e = .returned (.agg #[.int .i8 r.f, .int .i64 r.d, .int .i8 r.g, .int .i64 r.e]) ∧ Below u.heap.size u w') := Kp.mk (fun u _ => dRun_is r u)
 clear h hl hL
 generalize bs (l.take j) = s0 at *
 generalize bs (l.drop (j + 2)) = s1 at *
 generalize bs l = s at *
 go_enter Tryz.func33, Tryz.ntmps33
 go_upto_region 1 with fail
 generalize w.alloc (.cells #[.int .i8 0, .int .i64 0, .int .i8 0, .int .i64 0] 26) = w0 at *
 go_wp2_with fail
 refine (r1.out _ HB.out.below).mono ?_
 rintro e u1 ⟨rfl, hbl⟩
 have HB := Kp.mk (HB.out.step hbl)
 have HR := Kp.mk (HR.out.step hbl)
 clear hbl
 go_wp2_with fail
 refine (r2.out _ HB.out.below).mono ?_
 rintro e u2 ⟨rfl, hbl⟩
 have HB := Kp.mk (HB.out.step hbl)
 have HR := Kp.mk (HR.out.step hbl)
 clear hbl
 go_upto_region 5 with fail
 have HX := Kp.mk (rg_new r 71 HB.out.below)
 have hbl := (Below.refl u2.heap.size u2).alloc (Nat.le_refl _) (.cells #[.int .i8 r.f, .int .i64 r.d, .int .i8 r.g, .int .i64 r.e] 71)
 have HB := Kp.mk (HB.out.step hbl)
 have HR := Kp.mk (HR.out.step hbl)
 clear hbl
 generalize u2.alloc (.cells #[.int .i8 r.f, .int .i64 r.d, .int .i8 r.g, .int .i64 r.e] 71) = u3 at *
 generalize u2.heap.size = gx at *
 have kHX0 := HX.out.c0
 have kHX1 := HX.out.c1
 have kHX2 := HX.out.c2
 have kHX3 := HX.out.c3
 go_wp2_with fail
 refine (r3.out _ HB.out.below).mono ?_
 rintro e u4 ⟨rfl, hbl⟩
 clear kHX0 kHX1 kHX2 kHX3
 have HB := Kp.mk (HB.out.step hbl)
 have HX := Kp.mk (HX.out.step hbl)
 have HR := Kp.mk (HR.out.step hbl)
 clear hbl
 have kHX0 := HX.out.c0
 have kHX1 := HX.out.c1
 have kHX2 := HX.out.c2
 have kHX3 := HX.out.c3
 go_wp2_with fail
 refine (r4.out _ HB.out.below).mono ?_
 rintro e u5 ⟨rfl, hbl⟩
 clear kHX0 kHX1 kHX2 kHX3
 have HB := Kp.mk (HB.out.step hbl)
 have HX := Kp.mk (HX.out.step hbl)
 have HR := Kp.mk (HR.out.step hbl)
 clear hbl
 have kHX0 := HX.out.c0
 have kHX1 := HX.out.c1
 have kHX2 := HX.out.c2
 have kHX3 := HX.out.c3
 go_wp2_with (first
  | refine wpList_store_row' rfl 26 (.tmp 2) (.tmp 32) rfl (w.heap.size) #[.int .i8 v.f, .int .i64 v.d, .int .i8 v.g, .int .i64 v.e] rfl rfl 26 #[.int .i8 0, .int .i64 0, .int .i8 0, .int .i64 0] HR.out.heap infoRn rfl (four_rn _ _ _ _) ?_)
 refine bodyPost_ret (results_cell_tmp (p := 2) (ty := 26) rfl _ _ (w.heap.size) 26 #[.int .i8 v.f, .int .i64 v.d, .int .i8 v.g, .int .i64 v.e] (0, 0) _ rfl (setRow_heap _ _ _ _ _ _ HR.out.heap) Tryz.underlying26 rfl infoRn) rfl ?_
 exact ⟨rfl, below_setRow HR.out.below HR.out.base _⟩
set_option maxHeartbeats 8000000 in
theorem dParse_is {l : List UInt8} {v : Rn} {c : Int} (hl : l.length ≤ 130) (h : ParR l v c) (w : World) (hL : LaidRn w) :
 Calls Tryz.prog 33 #[.string (bs l)] w fun z w' => z = .returned (.tuple #[.agg #[.int .i8 v.f, .int .i64 v.d, .int .i8 v.g, .int .i64 v.e], .int .i64 c]) ∧ Below w.heap.size w w' := by
 rcases h with ⟨h, rfl, rfl⟩ | ⟨j, f, d, p, g, i, q, h, h1, h2, hc⟩
 ·exact dParse_no h hl w hL
 have l1 : (l.take j).length ≤ 1000 := by rw [List.length_take]; omega
 have l2 : (l.drop (j + 2)).length ≤ 1000 := by rw [List.length_drop]; omega
 have e1 := h1.err
 have e2 := h2.err
 have b1 := h1.range
 have b2 := h2.range
 have q1 : ∀ u, Below w.heap.size w u → ∀ v, Below u.heap.size u v → Calls Tryz.prog 65 #[.string (bs (l.take j))] v fun e w' => e = .returned (.tuple #[.agg #[.int .i8 f, .int .i64 d], .int .i64 p]) ∧ Below v.heap.size v w' := fun u hw v hv => dPar_is h1 l1 v (hL.en.below (hw.trans (hv.mono hw.size)))
 have q2 : ∀ u, Below w.heap.size w u → ∀ v, Below u.heap.size u v → Calls Tryz.prog 65 #[.string (bs (l.drop (j + 2)))] v fun e w' => e = .returned (.tuple #[.agg #[.int .i8 g, .int .i64 i], .int .i64 q]) ∧ Below v.heap.size v w' := fun u hw v hv => dPar_is h2 l2 v (hL.en.below (hw.trans (hv.mono hw.size)))
 rcases hc with ⟨h5, rfl, rfl⟩ | ⟨h5, h0, rfl, rfl⟩ | ⟨⟨rfl, rfl⟩, hk, rfl, rfl⟩ | ⟨⟨rfl, rfl⟩, hk, rfl, rfl⟩
 ·exact dParse_err h hl (by decide) w hL (Kp.mk (fun u hw => eachS_bad (by split <;> omega) (by decide) u (q1 u hw) (q2 u hw)))
 ·exact dParse_err h hl (by decide) w hL (Kp.mk (fun u hw => eachS_bad (by split <;> omega) (by decide) u (q1 u hw) (q2 u hw)))
 ·exact dParse_run (r := ⟨f, d, g, i⟩) h hl w hL (Kp.mk (fun u hw => eachS_ok u (q1 u hw) (q2 u hw))) (Kp.mk (fun u hw => dRight_bad ⟨b1.1, b1.2, b2.1, b2.2⟩ rfl hk u (hL.en.below hw)))
 ·exact dParse_run (r := ⟨f, d, g, i⟩) h hl w hL (Kp.mk (fun u hw => eachS_ok u (q1 u hw) (q2 u hw))) (Kp.mk (fun u hw => dRight_ok ⟨b1.1, b1.2, b2.1, b2.2⟩ hk u (hL.en.below hw)))
end Go.Proofs.YteddfolhpoikcaaGreatDoor
