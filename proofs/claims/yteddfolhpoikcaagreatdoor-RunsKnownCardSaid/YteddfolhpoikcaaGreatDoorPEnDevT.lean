/-
 DERIVED. CONTRACT of package ends: Text. Written by mken9.py.
-/
import Derived.Test.YteddfolhpoikcaaGreatDoorPEnDevB
import Derived.Test.YteddfolhpoikcaaGreatDoorPEm
namespace Go.Proofs.YteddfolhpoikcaaGreatDoor
open Go.RowKit
set_option maxRecDepth 100000

set_option maxHeartbeats 2000000 in
theorem dText_out {f d c : Int} (hc : chkE f d = c) (h0 : ¬ c = 0) (w : World) (hL : LaidEn w) :
 Calls Tryz.prog 62 #[.agg #[.int .i8 f, .int .i64 d]] w fun x w' => x = .returned (.tuple #[.string ⟨#[]⟩, .int .i64 c]) ∧ Below w.heap.size w w' := by
 have r1 := Kp.mk (fun v (h : Below w.heap.size w v) => dChk_is hc v (hL.below h))
 clear hc hL
 have HA := Kp.mk (eb_new f d 24 (Below.refl w.heap.size w))
 go_enter Tryz.func62, Tryz.ntmps62
 go_upto_region 1 with fail
 generalize w.alloc (.cells #[.int .i8 f, .int .i64 d] 24) = w0 at *
 have k0 := HA.out.c0
 have k1 := HA.out.c1
 go_wp2_with fail
 refine (r1.out _ HA.out.below).mono ?_
 rintro e w1 ⟨rfl, hbl⟩
 have HA := Kp.mk (HA.out.step hbl)
 clear hbl k0 k1
 have k0 := HA.out.c0
 have k1 := HA.out.c1
 go_wp2_with fail
 go_ret2
 exact ⟨rfl, HA.out.below⟩
set_option maxHeartbeats 4000000 in
theorem dText_min (w : World) (hL : LaidEn w) :
 Calls Tryz.prog 62 #[.agg #[.int .i8 (-1), .int .i64 0]] w fun x w' => x = .returned (.tuple #[.string ⟨#[45, 105, 110, 102]⟩, .int .i64 0]) ∧ Below w.heap.size w w' := by
 have r1 := Kp.mk (fun v (h : Below w.heap.size w v) => dChk_is (f := -1) (d := 0) (c := 0) (chkE_zero.2 (by omega)) v (hL.below h))
 have HL := Kp.mk (fun v (h : Below w.heap.size w v) => hL.below h)
 obtain ⟨lk, hk⟩ := key_any (f := -1) (d := 0) (by omega) (by omega) (by omega) (by omega)
 have HK := Kp.mk hk
 clear hL hk
 have HA := Kp.mk (eb_new (-1) 0 24 (Below.refl w.heap.size w))
 go_enter Tryz.func62, Tryz.ntmps62
 go_upto_region 1 with fail
 generalize w.alloc (.cells #[.int .i8 (-1), .int .i64 0] 24) = w0 at *
 have k0 := HA.out.c0
 have k1 := HA.out.c1
 go_wp2_with fail
 refine (r1.out _ HA.out.below).mono ?_
 rintro e w1 ⟨rfl, hbl⟩
 have HA := Kp.mk (HA.out.step hbl)
 clear hbl k0 k1
 have HD := Kp.mk (HA.out.step (Below.refl w1.heap.size w1).drew)
 have k0 := HA.out.c0
 have k1 := HA.out.c1
 have k0d := HD.out.c0
 have k1d := HD.out.c1
 have HLd := Kp.mk (HL.out _ HD.out.below)
 go_wp2_with fail
 go_region_with (go_at_call 77; refine (infs_is _ ?_).mono ?_; exact HLd.out; rintro e w2 ⟨r, es, rfl, hes, hr, hm, hbl⟩; have HE := Kp.mk (HD.out.step hbl); have k2 := HE.out.c0; have k3 := HE.out.c1; have hlk := (look_is w2 hes hm HK.out).1 rfl; clear hes hr hm hbl)
 all_goals
  go_wp2_with fail
  go_ret2
  exact ⟨rfl, HE.out.below⟩
set_option maxHeartbeats 4000000 in
theorem dText_max (w : World) (hL : LaidEn w) :
 Calls Tryz.prog 62 #[.agg #[.int .i8 1, .int .i64 0]] w fun x w' => x = .returned (.tuple #[.string ⟨#[105, 110, 102]⟩, .int .i64 0]) ∧ Below w.heap.size w w' := by
 have r1 := Kp.mk (fun v (h : Below w.heap.size w v) => dChk_is (f := 1) (d := 0) (c := 0) (chkE_zero.2 (by omega)) v (hL.below h))
 have HL := Kp.mk (fun v (h : Below w.heap.size w v) => hL.below h)
 obtain ⟨lk, hk⟩ := key_any (f := 1) (d := 0) (by omega) (by omega) (by omega) (by omega)
 have HK := Kp.mk hk
 clear hL hk
 have HA := Kp.mk (eb_new 1 0 24 (Below.refl w.heap.size w))
 go_enter Tryz.func62, Tryz.ntmps62
 go_upto_region 1 with fail
 generalize w.alloc (.cells #[.int .i8 1, .int .i64 0] 24) = w0 at *
 have k0 := HA.out.c0
 have k1 := HA.out.c1
 go_wp2_with fail
 refine (r1.out _ HA.out.below).mono ?_
 rintro e w1 ⟨rfl, hbl⟩
 have HA := Kp.mk (HA.out.step hbl)
 clear hbl k0 k1
 have HD := Kp.mk (HA.out.step (Below.refl w1.heap.size w1).drew)
 have k0 := HA.out.c0
 have k1 := HA.out.c1
 have k0d := HD.out.c0
 have k1d := HD.out.c1
 have HLd := Kp.mk (HL.out _ HD.out.below)
 go_wp2_with fail
 go_region_with (go_at_call 77; refine (infs_is _ ?_).mono ?_; exact HLd.out; rintro e w2 ⟨r, es, rfl, hes, hr, hm, hbl⟩; have HE := Kp.mk (HD.out.step hbl); have k2 := HE.out.c0; have k3 := HE.out.c1; have hlk := (look_is w2 hes hm HK.out).2.1 rfl; clear hes hr hm hbl)
 all_goals
  go_wp2_with fail
  go_ret2
  exact ⟨rfl, HE.out.below⟩
set_option maxHeartbeats 4000000 in
theorem dText_day {d : Int} (d0 : -9223372036854775808 ≤ d) (d1 : d ≤ 9223372036854775807) (w : World) (hL : LaidEn w) :
 Calls Tryz.prog 62 #[.agg #[.int .i8 0, .int .i64 d]] w fun x w' => x = .returned (.tuple #[.string ⟨(Lib.itoa d).toArray⟩, .int .i64 0]) ∧ Below w.heap.size w w' := by
 have r1 := Kp.mk (fun v (h : Below w.heap.size w v) => dChk_is (f := 0) (d := d) (c := 0) (chkE_zero.2 (by omega)) v (hL.below h))
 have HL := Kp.mk (fun v (h : Below w.heap.size w v) => hL.below h)
 obtain ⟨lk, hk⟩ := key_any (f := 0) (d := d) (by omega) (by omega) (by omega) (by omega)
 have HK := Kp.mk hk
 have r2 := Kp.mk (fun v (h : Below w.heap.size w v) => I1.text_any d v (hL.below h).ints d0 d1)
 clear hL hk d0 d1
 have HA := Kp.mk (eb_new 0 d 24 (Below.refl w.heap.size w))
 go_enter Tryz.func62, Tryz.ntmps62
 go_upto_region 1 with fail
 generalize w.alloc (.cells #[.int .i8 0, .int .i64 d] 24) = w0 at *
 have k0 := HA.out.c0
 have k1 := HA.out.c1
 go_wp2_with fail
 refine (r1.out _ HA.out.below).mono ?_
 rintro e w1 ⟨rfl, hbl⟩
 have HA := Kp.mk (HA.out.step hbl)
 clear hbl k0 k1
 have HD := Kp.mk (HA.out.step (Below.refl w1.heap.size w1).drew)
 have k0 := HA.out.c0
 have k1 := HA.out.c1
 have k0d := HD.out.c0
 have k1d := HD.out.c1
 have HLd := Kp.mk (HL.out _ HD.out.below)
 go_wp2_with fail
 go_region_with (go_at_call 77; refine (infs_is _ ?_).mono ?_; exact HLd.out; rintro e w2 ⟨r, es, rfl, hes, hr, hm, hbl⟩; have HE := Kp.mk (HD.out.step hbl); have k2 := HE.out.c0; have k3 := HE.out.c1; have hlk := (look_is w2 hes hm HK.out).2.2 (by simp) (by simp); clear hes hr hm hbl)
 all_goals
  go_wp2_with fail
  refine (r2.out _ HE.out.below).mono ?_
  rintro e w3 ⟨rfl, hbl⟩
  have HF := Kp.mk (HE.out.step hbl)
  clear hbl
  go_wp2_with fail
  go_ret2
  exact ⟨rfl, HF.out.below⟩
theorem dText_in {f d : Int} (d0 : -9223372036854775808 ≤ d) (d1 : d ≤ 9223372036854775807) (hc : chkE f d = 0) (w : World) (hL : LaidEn w) :
 Calls Tryz.prog 62 #[.agg #[.int .i8 f, .int .i64 d]] w fun x w' => x = .returned (.tuple #[.string (bs (textE f d)), .int .i64 0]) ∧ Below w.heap.size w w' := by
 rcases chkE_zero.1 hc with rfl | ⟨rfl | rfl, rfl⟩
 ·exact dText_day d0 d1 w hL
 ·exact dText_max w hL
 ·exact dText_min w hL
end Go.Proofs.YteddfolhpoikcaaGreatDoor
