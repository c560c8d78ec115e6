/-
  DERIVED. WALK of the law CivilsKnown, given the contracts of package civils. Written by mkcvknown.py.
-/
import Derived.Test.YtoafigehcgledaaGreatDoorPCvLawsC
import Derived.Test.YtoafigehcgledaaGreatDoorPCo
namespace Go.Proofs.YtoafigehcgledaaGreatDoor
open Go.RowKit

theorem s_lo : Sd (-6) = -2191 := by decide
theorem s_hi : Sd 6 = 2192 := by decide
theorem strs_at (k : Nat) (hk : k < 20) : ∃ s, ([.string ⟨#[]⟩, .string ⟨#[45]⟩, .string ⟨#[48, 48, 48, 48, 45, 48, 49, 45, 48, 49]⟩, .string ⟨#[49, 48, 48, 48, 48, 48, 48, 48, 48, 48, 48, 48, 48, 48, 48, 48, 48, 45, 49, 50, 45, 51, 49]⟩, .string ⟨#[49, 48, 48, 48, 48, 48, 48, 48, 48, 48, 48, 48, 48, 48, 48, 48, 49, 45, 48, 49, 45, 48, 49]⟩, .string ⟨#[45, 49, 48, 48, 48, 48, 48, 48, 48, 48, 48, 48, 48, 48, 48, 48, 48, 48, 45, 48, 49, 45, 48, 49]⟩, .string ⟨#[57, 57, 57, 57, 57, 57, 57, 57, 57, 57, 57, 57, 57, 57, 57, 57, 57, 57, 57, 57, 57, 57, 57, 45, 48, 49, 45, 48, 49]⟩, .string ⟨#[48, 48, 48, 48, 49, 45, 48, 49, 45, 48, 49]⟩, .string ⟨#[50, 48, 48, 48, 45, 48, 49, 45, 48, 49, 32]⟩, .string ⟨#[50, 48, 48, 48, 45, 48, 49, 45, 48, 49, 49]⟩, .string ⟨#[50, 48, 48, 48, 45, 45, 49, 45, 48, 49]⟩, .string ⟨#[50, 48, 48, 48, 45, 48, 49, 45, 45, 49]⟩, .string ⟨#[50, 48, 88, 48, 45, 48, 49, 45, 48, 49]⟩, .string ⟨#[50, 48, 48, 48, 47, 48, 49, 47, 48, 49]⟩, .string ⟨#[45, 50, 48, 48, 48, 45, 49, 50, 45, 51, 49]⟩, .string ⟨#[45, 45, 50, 48, 48, 48, 45, 49, 50, 45, 51, 49]⟩, .string ⟨#[50, 48, 48, 48, 45, 48, 48, 45, 49, 48]⟩, .string ⟨#[50, 48, 48, 48, 45, 49, 51, 45, 49, 48]⟩, .string ⟨#[50, 48, 48, 48, 45, 48, 49, 45, 48, 48]⟩, .string ⟨#[50, 48, 48, 48, 45, 48, 49, 45, 51, 50]⟩] : List Value)[k]? = some (.string s) := by
  have h : ([.string ⟨#[]⟩, .string ⟨#[45]⟩, .string ⟨#[48, 48, 48, 48, 45, 48, 49, 45, 48, 49]⟩, .string ⟨#[49, 48, 48, 48, 48, 48, 48, 48, 48, 48, 48, 48, 48, 48, 48, 48, 48, 45, 49, 50, 45, 51, 49]⟩, .string ⟨#[49, 48, 48, 48, 48, 48, 48, 48, 48, 48, 48, 48, 48, 48, 48, 48, 49, 45, 48, 49, 45, 48, 49]⟩, .string ⟨#[45, 49, 48, 48, 48, 48, 48, 48, 48, 48, 48, 48, 48, 48, 48, 48, 48, 48, 45, 48, 49, 45, 48, 49]⟩, .string ⟨#[57, 57, 57, 57, 57, 57, 57, 57, 57, 57, 57, 57, 57, 57, 57, 57, 57, 57, 57, 57, 57, 57, 57, 45, 48, 49, 45, 48, 49]⟩, .string ⟨#[48, 48, 48, 48, 49, 45, 48, 49, 45, 48, 49]⟩, .string ⟨#[50, 48, 48, 48, 45, 48, 49, 45, 48, 49, 32]⟩, .string ⟨#[50, 48, 48, 48, 45, 48, 49, 45, 48, 49, 49]⟩, .string ⟨#[50, 48, 48, 48, 45, 45, 49, 45, 48, 49]⟩, .string ⟨#[50, 48, 48, 48, 45, 48, 49, 45, 45, 49]⟩, .string ⟨#[50, 48, 88, 48, 45, 48, 49, 45, 48, 49]⟩, .string ⟨#[50, 48, 48, 48, 47, 48, 49, 47, 48, 49]⟩, .string ⟨#[45, 50, 48, 48, 48, 45, 49, 50, 45, 51, 49]⟩, .string ⟨#[45, 45, 50, 48, 48, 48, 45, 49, 50, 45, 51, 49]⟩, .string ⟨#[50, 48, 48, 48, 45, 48, 48, 45, 49, 48]⟩, .string ⟨#[50, 48, 48, 48, 45, 49, 51, 45, 49, 48]⟩, .string ⟨#[50, 48, 48, 48, 45, 48, 49, 45, 48, 48]⟩, .string ⟨#[50, 48, 48, 48, 45, 48, 49, 45, 51, 50]⟩] : List Value) = ([⟨#[]⟩, ⟨#[45]⟩, ⟨#[48, 48, 48, 48, 45, 48, 49, 45, 48, 49]⟩, ⟨#[49, 48, 48, 48, 48, 48, 48, 48, 48, 48, 48, 48, 48, 48, 48, 48, 48, 45, 49, 50, 45, 51, 49]⟩, ⟨#[49, 48, 48, 48, 48, 48, 48, 48, 48, 48, 48, 48, 48, 48, 48, 48, 49, 45, 48, 49, 45, 48, 49]⟩, ⟨#[45, 49, 48, 48, 48, 48, 48, 48, 48, 48, 48, 48, 48, 48, 48, 48, 48, 48, 45, 48, 49, 45, 48, 49]⟩, ⟨#[57, 57, 57, 57, 57, 57, 57, 57, 57, 57, 57, 57, 57, 57, 57, 57, 57, 57, 57, 57, 57, 57, 57, 45, 48, 49, 45, 48, 49]⟩, ⟨#[48, 48, 48, 48, 49, 45, 48, 49, 45, 48, 49]⟩, ⟨#[50, 48, 48, 48, 45, 48, 49, 45, 48, 49, 32]⟩, ⟨#[50, 48, 48, 48, 45, 48, 49, 45, 48, 49, 49]⟩, ⟨#[50, 48, 48, 48, 45, 45, 49, 45, 48, 49]⟩, ⟨#[50, 48, 48, 48, 45, 48, 49, 45, 45, 49]⟩, ⟨#[50, 48, 88, 48, 45, 48, 49, 45, 48, 49]⟩, ⟨#[50, 48, 48, 48, 47, 48, 49, 47, 48, 49]⟩, ⟨#[45, 50, 48, 48, 48, 45, 49, 50, 45, 51, 49]⟩, ⟨#[45, 45, 50, 48, 48, 48, 45, 49, 50, 45, 51, 49]⟩, ⟨#[50, 48, 48, 48, 45, 48, 48, 45, 49, 48]⟩, ⟨#[50, 48, 48, 48, 45, 49, 51, 45, 49, 48]⟩, ⟨#[50, 48, 48, 48, 45, 48, 49, 45, 48, 48]⟩, ⟨#[50, 48, 48, 48, 45, 48, 49, 45, 51, 50]⟩] : List ByteArray).map Value.string := rfl
  rw [h, List.getElem?_map, List.getElem?_eq_getElem (by simpa using hk)]
  exact ⟨_, rfl⟩
set_option maxRecDepth 100000 in
set_option maxHeartbeats 8000000 in
theorem lawKnown_any {I : World → Prop} (C : CivFns I) (D : CivTxt I) (w : World) (hI : I w) : Calls Tryz.prog 9 #[] w fun e w' => e = .returned (.bool true) ∧ Below w.heap.size w w' := by
  have HB := Kp.mk (Bl.mk (Below.refl w.heap.size w))
  have HI := Kp.mk (fun (v : World) (h : Below w.heap.size w v) => C.keep hI h)
  clear hI
  have s1 := Kp.mk (fun w => refStart_is (y := -6) w (by decide) (by decide) s_lo)
  have s2 := Kp.mk (fun w => refStart_is (y := 6) w (by decide) (by decide) s_hi)
  have ro : Kp (∀ d v, Below w.heap.size w v → -2191 ≤ d → d < 2192 → Calls Tryz.prog 4 #[.int .i64 d, .int .i64 (d + 1)] v fun x w' => x = .returned (.bool true) ∧ Below v.heap.size v w') := Kp.mk (fun d v hw h0 h1 => lawOf_any C d (d + 1) v (HI.out v hw) (by omega) (by omega) (by omega) (by omega))
  have c0 := Kp.mk (fun w => civil_is 1582 10 15 w)
  have d0 := Kp.mk (fun v (hw : Below w.heap.size w v) => C.day_in (y := 1582) (m := 10) (d := 15) (v := 578101) v (HI.out v hw) ⟨by decide, by decide, by decide, by decide, by decide⟩ (by decide))
  have w0 := Kp.mk (fun v (hw : Below w.heap.size w v) => C.wday (n := 578101) (v := 4) v (HI.out v hw) (by decide) (by decide) (by decide))
  have t0 := Kp.mk (fun v (hw : Below w.heap.size w v) => lawText_any C D 1582 10 15 v (HI.out v hw) (by decide) (by decide) (by decide) (by decide) (by decide) (by decide))
  have l0 := Kp.mk (fun v (hw : Below w.heap.size w v) => lawDay_any C 1582 10 15 v (HI.out v hw) (by decide) (by decide) (by decide) (by decide) (by decide) (by decide))
  have c1 := Kp.mk (fun w => civil_is 1970 1 1 w)
  have d1 := Kp.mk (fun v (hw : Below w.heap.size w v) => C.day_in (y := 1970) (m := 1) (d := 1) (v := 719528) v (HI.out v hw) ⟨by decide, by decide, by decide, by decide, by decide⟩ (by decide))
  have w1 := Kp.mk (fun v (hw : Below w.heap.size w v) => C.wday (n := 719528) (v := 3) v (HI.out v hw) (by decide) (by decide) (by decide))
  have t1 := Kp.mk (fun v (hw : Below w.heap.size w v) => lawText_any C D 1970 1 1 v (HI.out v hw) (by decide) (by decide) (by decide) (by decide) (by decide) (by decide))
  have l1 := Kp.mk (fun v (hw : Below w.heap.size w v) => lawDay_any C 1970 1 1 v (HI.out v hw) (by decide) (by decide) (by decide) (by decide) (by decide) (by decide))
  have c2 := Kp.mk (fun w => civil_is 2000 1 1 w)
  have d2 := Kp.mk (fun v (hw : Below w.heap.size w v) => C.day_in (y := 2000) (m := 1) (d := 1) (v := 730485) v (HI.out v hw) ⟨by decide, by decide, by decide, by decide, by decide⟩ (by decide))
  have w2 := Kp.mk (fun v (hw : Below w.heap.size w v) => C.wday (n := 730485) (v := 5) v (HI.out v hw) (by decide) (by decide) (by decide))
  have t2 := Kp.mk (fun v (hw : Below w.heap.size w v) => lawText_any C D 2000 1 1 v (HI.out v hw) (by decide) (by decide) (by decide) (by decide) (by decide) (by decide))
  have l2 := Kp.mk (fun v (hw : Below w.heap.size w v) => lawDay_any C 2000 1 1 v (HI.out v hw) (by decide) (by decide) (by decide) (by decide) (by decide) (by decide))
  have c3 := Kp.mk (fun w => civil_is 2024 2 29 w)
  have d3 := Kp.mk (fun v (hw : Below w.heap.size w v) => C.day_in (y := 2024) (m := 2) (d := 29) (v := 739310) v (HI.out v hw) ⟨by decide, by decide, by decide, by decide, by decide⟩ (by decide))
  have w3 := Kp.mk (fun v (hw : Below w.heap.size w v) => C.wday (n := 739310) (v := 3) v (HI.out v hw) (by decide) (by decide) (by decide))
  have t3 := Kp.mk (fun v (hw : Below w.heap.size w v) => lawText_any C D 2024 2 29 v (HI.out v hw) (by decide) (by decide) (by decide) (by decide) (by decide) (by decide))
  have l3 := Kp.mk (fun v (hw : Below w.heap.size w v) => lawDay_any C 2024 2 29 v (HI.out v hw) (by decide) (by decide) (by decide) (by decide) (by decide) (by decide))
  have c4 := Kp.mk (fun w => civil_is 1 1 1 w)
  have d4 := Kp.mk (fun v (hw : Below w.heap.size w v) => C.day_in (y := 1) (m := 1) (d := 1) (v := 366) v (HI.out v hw) ⟨by decide, by decide, by decide, by decide, by decide⟩ (by decide))
  have w4 := Kp.mk (fun v (hw : Below w.heap.size w v) => C.wday (n := 366) (v := 0) v (HI.out v hw) (by decide) (by decide) (by decide))
  have t4 := Kp.mk (fun v (hw : Below w.heap.size w v) => lawText_any C D 1 1 1 v (HI.out v hw) (by decide) (by decide) (by decide) (by decide) (by decide) (by decide))
  have l4 := Kp.mk (fun v (hw : Below w.heap.size w v) => lawDay_any C 1 1 1 v (HI.out v hw) (by decide) (by decide) (by decide) (by decide) (by decide) (by decide))
  have c5 := Kp.mk (fun w => civil_is (-1) 12 31 w)
  have d5 := Kp.mk (fun v (hw : Below w.heap.size w v) => C.day_in (y := (-1)) (m := 12) (d := 31) (v := (-1)) v (HI.out v hw) ⟨by decide, by decide, by decide, by decide, by decide⟩ (by decide))
  have w5 := Kp.mk (fun v (hw : Below w.heap.size w v) => C.wday (n := (-1)) (v := 4) v (HI.out v hw) (by decide) (by decide) (by decide))
  have t5 := Kp.mk (fun v (hw : Below w.heap.size w v) => lawText_any C D (-1) 12 31 v (HI.out v hw) (by decide) (by decide) (by decide) (by decide) (by decide) (by decide))
  have l5 := Kp.mk (fun v (hw : Below w.heap.size w v) => lawDay_any C (-1) 12 31 v (HI.out v hw) (by decide) (by decide) (by decide) (by decide) (by decide) (by decide))
  have rp := Kp.mk (fun v (hw : Below w.heap.size w v) => fun s => lawParse_any C D s v (HI.out v hw))
  have x1 := Kp.mk (fun v (hw : Below w.heap.size w v) => C.wday (n := 9223372036854775807) (v := 5) v (HI.out v hw) (by decide) (by decide) (by decide))
  have x2 := Kp.mk (fun w => refWday_is (n := 9223372036854775807) (v := 5) w (by decide))
  have x3 := Kp.mk (fun v (hw : Below w.heap.size w v) => C.wday (n := -9223372036854775808) (v := 4) v (HI.out v hw) (by decide) (by decide) (by decide))
  have x4 := Kp.mk (fun w => refWday_is (n := -9223372036854775808) (v := 4) w (by decide))
  have x5 := Kp.mk (fun w => civil_is 10000000000000000 12 31 w)
  have x6 := Kp.mk (fun v (hw : Below w.heap.size w v) => lawText_any C D 10000000000000000 12 31 v (HI.out v hw) (by decide) (by decide) (by decide) (by decide) (by decide) (by decide))
  have x7 := Kp.mk (fun w => civil_is (-10000000000000000) 1 1 w)
  have x8 := Kp.mk (fun v (hw : Below w.heap.size w v) => lawDay_any C (-10000000000000000) 1 1 v (HI.out v hw) (by decide) (by decide) (by decide) (by decide) (by decide) (by decide))
  have rl := Kp.mk (fun v (hw : Below w.heap.size w v) => C.lives v (HI.out v hw))
  clear C D
  go_enter Tryz.func9, Tryz.ntmps9
  go_wp2_with fail
  refine (s1.out _).mono ?_
  rintro e w' ⟨rfl, rfl⟩
  go_wp2_with fail
  go_loopw [1] (fun d wr => ∃ n : Int, -2191 ≤ n ∧ n ≤ 2192 ∧ d = .int .i64 n ∧ Kp (Bl w wr)) (fun d _ => (2192 - intOf d).toNat)
  case atStart => exact ⟨-2191, by decide, by decide, rfl, HB⟩
  case round =>
    obtain ⟨n, hn0, hn1, rfl, HB⟩ := hrel
    go_wp2_with fail
    refine (s2.out _).mono ?_
    rintro e w' ⟨rfl, rfl⟩
    by_cases hlt : n < 2192
    · have w1 : IntKind.i64.wrap (n + 1) = n + 1 := IntWalk.i64_in _ (by omega)
      have HR := Kp.mk (fun v hw => ro.out n v hw hn0 hlt)
      go_wp2_with fail
      refine (HR.out _ HB.out.below).mono ?_
      rintro e u1 ⟨rfl, hbl⟩
      have HB := Kp.mk (HB.out.step hbl)
      clear hbl
      go_wp2_with fail
      go_roundw
      case rel => exact ⟨n + 1, by omega, by omega, rfl, HB⟩
      case measure => simp [intOf]; omega
    · clear hn0 hn1
      go_wp2_with fail
      refine (c0.out _).mono ?_
      rintro e u101 ⟨rfl, hbl⟩
      have HB := Kp.mk (HB.out.step hbl)
      clear hbl
      go_wp2_with fail
      refine (c1.out _).mono ?_
      rintro e u102 ⟨rfl, hbl⟩
      have HB := Kp.mk (HB.out.step hbl)
      clear hbl
      go_wp2_with fail
      refine (c2.out _).mono ?_
      rintro e u103 ⟨rfl, hbl⟩
      have HB := Kp.mk (HB.out.step hbl)
      clear hbl
      go_wp2_with fail
      refine (c3.out _).mono ?_
      rintro e u104 ⟨rfl, hbl⟩
      have HB := Kp.mk (HB.out.step hbl)
      clear hbl
      go_wp2_with fail
      refine (c4.out _).mono ?_
      rintro e u105 ⟨rfl, hbl⟩
      have HB := Kp.mk (HB.out.step hbl)
      clear hbl
      go_wp2_with fail
      refine (c5.out _).mono ?_
      rintro e u106 ⟨rfl, hbl⟩
      have HB := Kp.mk (HB.out.step hbl)
      clear hbl
      go_wp2_with fail
      have HC := Kp.mk (vals_new [.int .i64 1582, .int .i64 10, .int .i64 15, .int .i64 1970, .int .i64 1, .int .i64 1, .int .i64 2000, .int .i64 1, .int .i64 1, .int .i64 2024, .int .i64 2, .int .i64 29, .int .i64 1, .int .i64 1, .int .i64 1, .int .i64 (-1), .int .i64 12, .int .i64 31] 23 HB.out.below)
      have HW := Kp.mk (vals_new [.int .i64 4, .int .i64 3, .int .i64 5, .int .i64 3, .int .i64 0, .int .i64 4] 3 HC.out.below)
      rw [World.size_alloc] at HW
      have HC := Kp.mk (HC.out.step ((Below.refl (u106.alloc (.cells #[.int .i64 1582, .int .i64 10, .int .i64 15, .int .i64 1970, .int .i64 1, .int .i64 1, .int .i64 2000, .int .i64 1, .int .i64 1, .int .i64 2024, .int .i64 2, .int .i64 29, .int .i64 1, .int .i64 1, .int .i64 1, .int .i64 (-1), .int .i64 12, .int .i64 31] 23)).heap.size (u106.alloc (.cells #[.int .i64 1582, .int .i64 10, .int .i64 15, .int .i64 1970, .int .i64 1, .int .i64 1, .int .i64 2000, .int .i64 1, .int .i64 1, .int .i64 2024, .int .i64 2, .int .i64 29, .int .i64 1, .int .i64 1, .int .i64 1, .int .i64 (-1), .int .i64 12, .int .i64 31] 23))).alloc (Nat.le_refl _) (.cells #[.int .i64 4, .int .i64 3, .int .i64 5, .int .i64 3, .int .i64 0, .int .i64 4] 3)))
      clear HB
      change Code.wp _ _ _ _ ((u106.alloc (.cells #[.int .i64 1582, .int .i64 10, .int .i64 15, .int .i64 1970, .int .i64 1, .int .i64 1, .int .i64 2000, .int .i64 1, .int .i64 1, .int .i64 2024, .int .i64 2, .int .i64 29, .int .i64 1, .int .i64 1, .int .i64 1, .int .i64 (-1), .int .i64 12, .int .i64 31] 23)).alloc (.cells #[.int .i64 4, .int .i64 3, .int .i64 5, .int .i64 3, .int .i64 0, .int .i64 4] 3))
      generalize (u106.alloc (.cells #[.int .i64 1582, .int .i64 10, .int .i64 15, .int .i64 1970, .int .i64 1, .int .i64 1, .int .i64 2000, .int .i64 1, .int .i64 1, .int .i64 2024, .int .i64 2, .int .i64 29, .int .i64 1, .int .i64 1, .int .i64 1, .int .i64 (-1), .int .i64 12, .int .i64 31] 23)).alloc (.cells #[.int .i64 4, .int .i64 3, .int .i64 5, .int .i64 3, .int .i64 0, .int .i64 4] 3) = v0 at *
      generalize hgw : u106.heap.size + 1 = gw at *
      generalize u106.heap.size = gc at *
      clear hgw
      go_loopw [4] (fun i wr => ∃ k : Nat, k ≤ 6 ∧ i = .int .i64 k ∧ Kp (Vals w gc [.int .i64 1582, .int .i64 10, .int .i64 15, .int .i64 1970, .int .i64 1, .int .i64 1, .int .i64 2000, .int .i64 1, .int .i64 1, .int .i64 2024, .int .i64 2, .int .i64 29, .int .i64 1, .int .i64 1, .int .i64 1, .int .i64 (-1), .int .i64 12, .int .i64 31] wr) ∧ Kp (Vals w gw [.int .i64 4, .int .i64 3, .int .i64 5, .int .i64 3, .int .i64 0, .int .i64 4] wr)) (fun i _ => 6 - (intOf i).toNat)
      case atStart => exact ⟨0, by omega, rfl, HC, HW⟩
      case round =>
        obtain ⟨k, hk, rfl, HC, HW⟩ := hrel
        have HB := Kp.mk (Bl.mk HC.out.below)
        by_cases hlt : k < 6
        · rcases (show k = 0 ∨ k = 1 ∨ k = 2 ∨ k = 3 ∨ k = 4 ∨ k = 5 by omega) with rfl | rfl | rfl | rfl | rfl | rfl
          · clear hlt hk
            have ke0 : wr.cell? ⟨gc, 0, none⟩ = some (.int .i64 1582) := HC.out.v_at 0 _ rfl
            have ke1 : wr.cell? ⟨gc, 1, none⟩ = some (.int .i64 10) := HC.out.v_at 1 _ rfl
            have ke2 : wr.cell? ⟨gc, 2, none⟩ = some (.int .i64 15) := HC.out.v_at 2 _ rfl
            go_wp2_with fail
            refine (d0.out _ HB.out.below).mono ?_
            rintro e u201 ⟨rfl, hbl⟩
            have HB := Kp.mk (HB.out.step hbl)
            have HC := Kp.mk (HC.out.step hbl)
            have HW := Kp.mk (HW.out.step hbl)
            clear hbl
            clear ke0 ke1 ke2
            go_upto_region 12 with fail
            have kx0 : u201.cell? ⟨gc, 0, none⟩ = some (.int .i64 1582) := HC.out.v_at 0 _ rfl
            have kx1 : u201.cell? ⟨gc, 1, none⟩ = some (.int .i64 10) := HC.out.v_at 1 _ rfl
            have kx2 : u201.cell? ⟨gc, 2, none⟩ = some (.int .i64 15) := HC.out.v_at 2 _ rfl
            have kx3 : u201.cell? ⟨gw, 0, none⟩ = some (.int .i64 4) := HW.out.v_at 0 _ rfl
            have hbl := (Below.refl u201.heap.size u201).drew
            have HBz := Kp.mk (HB.out.step hbl)
            have HCz := Kp.mk (HC.out.step hbl)
            have HWz := Kp.mk (HW.out.step hbl)
            clear hbl
            go_region_held3 (fun w' => w'.cell? ⟨gc, 0, none⟩ = some (.int .i64 1582) ∧ w'.cell? ⟨gc, 1, none⟩ = some (.int .i64 10) ∧ w'.cell? ⟨gc, 2, none⟩ = some (.int .i64 15) ∧ w'.cell? ⟨gw, 0, none⟩ = some (.int .i64 4)) (first | go_keep | exact ⟨kx0_u202, kx1_u202, kx2_u202, kx3_u202⟩ | exact ⟨kx0_u203, kx1_u203, kx2_u203, kx3_u203⟩ | exact ⟨kx0_u204, kx1_u204, kx2_u204, kx3_u204⟩)
              (first
                | (go_at_call 20; (with_reducible show Calls _ _ _ u201.drew _); refine (w0.out _ HBz.out.below).mono ?_; rintro e u202 ⟨rfl, hb⟩; have HB_u202 := Kp.mk (HBz.out.step hb); have HC_u202 := Kp.mk (HCz.out.step hb); have HW_u202 := Kp.mk (HWz.out.step hb); have kx0_u202 : u202.cell? ⟨gc, 0, none⟩ = some (.int .i64 1582) := HC_u202.out.v_at 0 _ rfl; have kx1_u202 : u202.cell? ⟨gc, 1, none⟩ = some (.int .i64 10) := HC_u202.out.v_at 1 _ rfl; have kx2_u202 : u202.cell? ⟨gc, 2, none⟩ = some (.int .i64 15) := HC_u202.out.v_at 2 _ rfl; have kx3_u202 : u202.cell? ⟨gw, 0, none⟩ = some (.int .i64 4) := HW_u202.out.v_at 0 _ rfl; clear hb)
                | (go_at_call 6; (with_reducible show Calls _ _ _ u202 _); refine (t0.out _ HB_u202.out.below).mono ?_; rintro e u203 ⟨rfl, hb⟩; have HB_u203 := Kp.mk (HB_u202.out.step hb); have HC_u203 := Kp.mk (HC_u202.out.step hb); have HW_u203 := Kp.mk (HW_u202.out.step hb); have kx0_u203 : u203.cell? ⟨gc, 0, none⟩ = some (.int .i64 1582) := HC_u203.out.v_at 0 _ rfl; have kx1_u203 : u203.cell? ⟨gc, 1, none⟩ = some (.int .i64 10) := HC_u203.out.v_at 1 _ rfl; have kx2_u203 : u203.cell? ⟨gc, 2, none⟩ = some (.int .i64 15) := HC_u203.out.v_at 2 _ rfl; have kx3_u203 : u203.cell? ⟨gw, 0, none⟩ = some (.int .i64 4) := HW_u203.out.v_at 0 _ rfl; clear hb)
                | (go_at_call 3; (with_reducible show Calls _ _ _ u203 _); refine (l0.out _ HB_u203.out.below).mono ?_; rintro e u204 ⟨rfl, hb⟩; have HB_u204 := Kp.mk (HB_u203.out.step hb); have HC_u204 := Kp.mk (HC_u203.out.step hb); have HW_u204 := Kp.mk (HW_u203.out.step hb); have kx0_u204 : u204.cell? ⟨gc, 0, none⟩ = some (.int .i64 1582) := HC_u204.out.v_at 0 _ rfl; have kx1_u204 : u204.cell? ⟨gc, 1, none⟩ = some (.int .i64 10) := HC_u204.out.v_at 1 _ rfl; have kx2_u204 : u204.cell? ⟨gc, 2, none⟩ = some (.int .i64 15) := HC_u204.out.v_at 2 _ rfl; have kx3_u204 : u204.cell? ⟨gw, 0, none⟩ = some (.int .i64 4) := HW_u204.out.v_at 0 _ rfl; clear hb))
            have HB := HB_u204
            have HC := HC_u204
            have HW := HW_u204
            clear kx0 kx1 kx2 kx3
            go_wp2_with fail
            go_roundw
            case rel =>
              first
                | exact ⟨1, by omega, rfl, HC, HW⟩
                | ((repeat apply Exists.intro); exact ⟨⟨1, by omega, rfl, HC, HW⟩, rfl⟩)
            case measure => simp [intOf]
          · clear hlt hk
            have ke0 : wr.cell? ⟨gc, 3, none⟩ = some (.int .i64 1970) := HC.out.v_at 3 _ rfl
            have ke1 : wr.cell? ⟨gc, 4, none⟩ = some (.int .i64 1) := HC.out.v_at 4 _ rfl
            have ke2 : wr.cell? ⟨gc, 5, none⟩ = some (.int .i64 1) := HC.out.v_at 5 _ rfl
            go_wp2_with fail
            refine (d1.out _ HB.out.below).mono ?_
            rintro e u201 ⟨rfl, hbl⟩
            have HB := Kp.mk (HB.out.step hbl)
            have HC := Kp.mk (HC.out.step hbl)
            have HW := Kp.mk (HW.out.step hbl)
            clear hbl
            clear ke0 ke1 ke2
            go_upto_region 12 with fail
            have kx0 : u201.cell? ⟨gc, 3, none⟩ = some (.int .i64 1970) := HC.out.v_at 3 _ rfl
            have kx1 : u201.cell? ⟨gc, 4, none⟩ = some (.int .i64 1) := HC.out.v_at 4 _ rfl
            have kx2 : u201.cell? ⟨gc, 5, none⟩ = some (.int .i64 1) := HC.out.v_at 5 _ rfl
            have kx3 : u201.cell? ⟨gw, 1, none⟩ = some (.int .i64 3) := HW.out.v_at 1 _ rfl
            have hbl := (Below.refl u201.heap.size u201).drew
            have HBz := Kp.mk (HB.out.step hbl)
            have HCz := Kp.mk (HC.out.step hbl)
            have HWz := Kp.mk (HW.out.step hbl)
            clear hbl
            go_region_held3 (fun w' => w'.cell? ⟨gc, 3, none⟩ = some (.int .i64 1970) ∧ w'.cell? ⟨gc, 4, none⟩ = some (.int .i64 1) ∧ w'.cell? ⟨gc, 5, none⟩ = some (.int .i64 1) ∧ w'.cell? ⟨gw, 1, none⟩ = some (.int .i64 3)) (first | go_keep | exact ⟨kx0_u202, kx1_u202, kx2_u202, kx3_u202⟩ | exact ⟨kx0_u203, kx1_u203, kx2_u203, kx3_u203⟩ | exact ⟨kx0_u204, kx1_u204, kx2_u204, kx3_u204⟩)
              (first
                | (go_at_call 20; (with_reducible show Calls _ _ _ u201.drew _); refine (w1.out _ HBz.out.below).mono ?_; rintro e u202 ⟨rfl, hb⟩; have HB_u202 := Kp.mk (HBz.out.step hb); have HC_u202 := Kp.mk (HCz.out.step hb); have HW_u202 := Kp.mk (HWz.out.step hb); have kx0_u202 : u202.cell? ⟨gc, 3, none⟩ = some (.int .i64 1970) := HC_u202.out.v_at 3 _ rfl; have kx1_u202 : u202.cell? ⟨gc, 4, none⟩ = some (.int .i64 1) := HC_u202.out.v_at 4 _ rfl; have kx2_u202 : u202.cell? ⟨gc, 5, none⟩ = some (.int .i64 1) := HC_u202.out.v_at 5 _ rfl; have kx3_u202 : u202.cell? ⟨gw, 1, none⟩ = some (.int .i64 3) := HW_u202.out.v_at 1 _ rfl; clear hb)
                | (go_at_call 6; (with_reducible show Calls _ _ _ u202 _); refine (t1.out _ HB_u202.out.below).mono ?_; rintro e u203 ⟨rfl, hb⟩; have HB_u203 := Kp.mk (HB_u202.out.step hb); have HC_u203 := Kp.mk (HC_u202.out.step hb); have HW_u203 := Kp.mk (HW_u202.out.step hb); have kx0_u203 : u203.cell? ⟨gc, 3, none⟩ = some (.int .i64 1970) := HC_u203.out.v_at 3 _ rfl; have kx1_u203 : u203.cell? ⟨gc, 4, none⟩ = some (.int .i64 1) := HC_u203.out.v_at 4 _ rfl; have kx2_u203 : u203.cell? ⟨gc, 5, none⟩ = some (.int .i64 1) := HC_u203.out.v_at 5 _ rfl; have kx3_u203 : u203.cell? ⟨gw, 1, none⟩ = some (.int .i64 3) := HW_u203.out.v_at 1 _ rfl; clear hb)
                | (go_at_call 3; (with_reducible show Calls _ _ _ u203 _); refine (l1.out _ HB_u203.out.below).mono ?_; rintro e u204 ⟨rfl, hb⟩; have HB_u204 := Kp.mk (HB_u203.out.step hb); have HC_u204 := Kp.mk (HC_u203.out.step hb); have HW_u204 := Kp.mk (HW_u203.out.step hb); have kx0_u204 : u204.cell? ⟨gc, 3, none⟩ = some (.int .i64 1970) := HC_u204.out.v_at 3 _ rfl; have kx1_u204 : u204.cell? ⟨gc, 4, none⟩ = some (.int .i64 1) := HC_u204.out.v_at 4 _ rfl; have kx2_u204 : u204.cell? ⟨gc, 5, none⟩ = some (.int .i64 1) := HC_u204.out.v_at 5 _ rfl; have kx3_u204 : u204.cell? ⟨gw, 1, none⟩ = some (.int .i64 3) := HW_u204.out.v_at 1 _ rfl; clear hb))
            have HB := HB_u204
            have HC := HC_u204
            have HW := HW_u204
            clear kx0 kx1 kx2 kx3
            go_wp2_with fail
            go_roundw
            case rel =>
              first
                | exact ⟨2, by omega, rfl, HC, HW⟩
                | ((repeat apply Exists.intro); exact ⟨⟨2, by omega, rfl, HC, HW⟩, rfl⟩)
            case measure => simp [intOf]
          · clear hlt hk
            have ke0 : wr.cell? ⟨gc, 6, none⟩ = some (.int .i64 2000) := HC.out.v_at 6 _ rfl
            have ke1 : wr.cell? ⟨gc, 7, none⟩ = some (.int .i64 1) := HC.out.v_at 7 _ rfl
            have ke2 : wr.cell? ⟨gc, 8, none⟩ = some (.int .i64 1) := HC.out.v_at 8 _ rfl
            go_wp2_with fail
            refine (d2.out _ HB.out.below).mono ?_
            rintro e u201 ⟨rfl, hbl⟩
            have HB := Kp.mk (HB.out.step hbl)
            have HC := Kp.mk (HC.out.step hbl)
            have HW := Kp.mk (HW.out.step hbl)
            clear hbl
            clear ke0 ke1 ke2
            go_upto_region 12 with fail
            have kx0 : u201.cell? ⟨gc, 6, none⟩ = some (.int .i64 2000) := HC.out.v_at 6 _ rfl
            have kx1 : u201.cell? ⟨gc, 7, none⟩ = some (.int .i64 1) := HC.out.v_at 7 _ rfl
            have kx2 : u201.cell? ⟨gc, 8, none⟩ = some (.int .i64 1) := HC.out.v_at 8 _ rfl
            have kx3 : u201.cell? ⟨gw, 2, none⟩ = some (.int .i64 5) := HW.out.v_at 2 _ rfl
            have hbl := (Below.refl u201.heap.size u201).drew
            have HBz := Kp.mk (HB.out.step hbl)
            have HCz := Kp.mk (HC.out.step hbl)
            have HWz := Kp.mk (HW.out.step hbl)
            clear hbl
            go_region_held3 (fun w' => w'.cell? ⟨gc, 6, none⟩ = some (.int .i64 2000) ∧ w'.cell? ⟨gc, 7, none⟩ = some (.int .i64 1) ∧ w'.cell? ⟨gc, 8, none⟩ = some (.int .i64 1) ∧ w'.cell? ⟨gw, 2, none⟩ = some (.int .i64 5)) (first | go_keep | exact ⟨kx0_u202, kx1_u202, kx2_u202, kx3_u202⟩ | exact ⟨kx0_u203, kx1_u203, kx2_u203, kx3_u203⟩ | exact ⟨kx0_u204, kx1_u204, kx2_u204, kx3_u204⟩)
              (first
                | (go_at_call 20; (with_reducible show Calls _ _ _ u201.drew _); refine (w2.out _ HBz.out.below).mono ?_; rintro e u202 ⟨rfl, hb⟩; have HB_u202 := Kp.mk (HBz.out.step hb); have HC_u202 := Kp.mk (HCz.out.step hb); have HW_u202 := Kp.mk (HWz.out.step hb); have kx0_u202 : u202.cell? ⟨gc, 6, none⟩ = some (.int .i64 2000) := HC_u202.out.v_at 6 _ rfl; have kx1_u202 : u202.cell? ⟨gc, 7, none⟩ = some (.int .i64 1) := HC_u202.out.v_at 7 _ rfl; have kx2_u202 : u202.cell? ⟨gc, 8, none⟩ = some (.int .i64 1) := HC_u202.out.v_at 8 _ rfl; have kx3_u202 : u202.cell? ⟨gw, 2, none⟩ = some (.int .i64 5) := HW_u202.out.v_at 2 _ rfl; clear hb)
                | (go_at_call 6; (with_reducible show Calls _ _ _ u202 _); refine (t2.out _ HB_u202.out.below).mono ?_; rintro e u203 ⟨rfl, hb⟩; have HB_u203 := Kp.mk (HB_u202.out.step hb); have HC_u203 := Kp.mk (HC_u202.out.step hb); have HW_u203 := Kp.mk (HW_u202.out.step hb); have kx0_u203 : u203.cell? ⟨gc, 6, none⟩ = some (.int .i64 2000) := HC_u203.out.v_at 6 _ rfl; have kx1_u203 : u203.cell? ⟨gc, 7, none⟩ = some (.int .i64 1) := HC_u203.out.v_at 7 _ rfl; have kx2_u203 : u203.cell? ⟨gc, 8, none⟩ = some (.int .i64 1) := HC_u203.out.v_at 8 _ rfl; have kx3_u203 : u203.cell? ⟨gw, 2, none⟩ = some (.int .i64 5) := HW_u203.out.v_at 2 _ rfl; clear hb)
                | (go_at_call 3; (with_reducible show Calls _ _ _ u203 _); refine (l2.out _ HB_u203.out.below).mono ?_; rintro e u204 ⟨rfl, hb⟩; have HB_u204 := Kp.mk (HB_u203.out.step hb); have HC_u204 := Kp.mk (HC_u203.out.step hb); have HW_u204 := Kp.mk (HW_u203.out.step hb); have kx0_u204 : u204.cell? ⟨gc, 6, none⟩ = some (.int .i64 2000) := HC_u204.out.v_at 6 _ rfl; have kx1_u204 : u204.cell? ⟨gc, 7, none⟩ = some (.int .i64 1) := HC_u204.out.v_at 7 _ rfl; have kx2_u204 : u204.cell? ⟨gc, 8, none⟩ = some (.int .i64 1) := HC_u204.out.v_at 8 _ rfl; have kx3_u204 : u204.cell? ⟨gw, 2, none⟩ = some (.int .i64 5) := HW_u204.out.v_at 2 _ rfl; clear hb))
            have HB := HB_u204
            have HC := HC_u204
            have HW := HW_u204
            clear kx0 kx1 kx2 kx3
            go_wp2_with fail
            go_roundw
            case rel =>
              first
                | exact ⟨3, by omega, rfl, HC, HW⟩
                | ((repeat apply Exists.intro); exact ⟨⟨3, by omega, rfl, HC, HW⟩, rfl⟩)
            case measure => simp [intOf]
          · clear hlt hk
            have ke0 : wr.cell? ⟨gc, 9, none⟩ = some (.int .i64 2024) := HC.out.v_at 9 _ rfl
            have ke1 : wr.cell? ⟨gc, 10, none⟩ = some (.int .i64 2) := HC.out.v_at 10 _ rfl
            have ke2 : wr.cell? ⟨gc, 11, none⟩ = some (.int .i64 29) := HC.out.v_at 11 _ rfl
            go_wp2_with fail
            refine (d3.out _ HB.out.below).mono ?_
            rintro e u201 ⟨rfl, hbl⟩
            have HB := Kp.mk (HB.out.step hbl)
            have HC := Kp.mk (HC.out.step hbl)
            have HW := Kp.mk (HW.out.step hbl)
            clear hbl
            clear ke0 ke1 ke2
            go_upto_region 12 with fail
            have kx0 : u201.cell? ⟨gc, 9, none⟩ = some (.int .i64 2024) := HC.out.v_at 9 _ rfl
            have kx1 : u201.cell? ⟨gc, 10, none⟩ = some (.int .i64 2) := HC.out.v_at 10 _ rfl
            have kx2 : u201.cell? ⟨gc, 11, none⟩ = some (.int .i64 29) := HC.out.v_at 11 _ rfl
            have kx3 : u201.cell? ⟨gw, 3, none⟩ = some (.int .i64 3) := HW.out.v_at 3 _ rfl
            have hbl := (Below.refl u201.heap.size u201).drew
            have HBz := Kp.mk (HB.out.step hbl)
            have HCz := Kp.mk (HC.out.step hbl)
            have HWz := Kp.mk (HW.out.step hbl)
            clear hbl
            go_region_held3 (fun w' => w'.cell? ⟨gc, 9, none⟩ = some (.int .i64 2024) ∧ w'.cell? ⟨gc, 10, none⟩ = some (.int .i64 2) ∧ w'.cell? ⟨gc, 11, none⟩ = some (.int .i64 29) ∧ w'.cell? ⟨gw, 3, none⟩ = some (.int .i64 3)) (first | go_keep | exact ⟨kx0_u202, kx1_u202, kx2_u202, kx3_u202⟩ | exact ⟨kx0_u203, kx1_u203, kx2_u203, kx3_u203⟩ | exact ⟨kx0_u204, kx1_u204, kx2_u204, kx3_u204⟩)
              (first
                | (go_at_call 20; (with_reducible show Calls _ _ _ u201.drew _); refine (w3.out _ HBz.out.below).mono ?_; rintro e u202 ⟨rfl, hb⟩; have HB_u202 := Kp.mk (HBz.out.step hb); have HC_u202 := Kp.mk (HCz.out.step hb); have HW_u202 := Kp.mk (HWz.out.step hb); have kx0_u202 : u202.cell? ⟨gc, 9, none⟩ = some (.int .i64 2024) := HC_u202.out.v_at 9 _ rfl; have kx1_u202 : u202.cell? ⟨gc, 10, none⟩ = some (.int .i64 2) := HC_u202.out.v_at 10 _ rfl; have kx2_u202 : u202.cell? ⟨gc, 11, none⟩ = some (.int .i64 29) := HC_u202.out.v_at 11 _ rfl; have kx3_u202 : u202.cell? ⟨gw, 3, none⟩ = some (.int .i64 3) := HW_u202.out.v_at 3 _ rfl; clear hb)
                | (go_at_call 6; (with_reducible show Calls _ _ _ u202 _); refine (t3.out _ HB_u202.out.below).mono ?_; rintro e u203 ⟨rfl, hb⟩; have HB_u203 := Kp.mk (HB_u202.out.step hb); have HC_u203 := Kp.mk (HC_u202.out.step hb); have HW_u203 := Kp.mk (HW_u202.out.step hb); have kx0_u203 : u203.cell? ⟨gc, 9, none⟩ = some (.int .i64 2024) := HC_u203.out.v_at 9 _ rfl; have kx1_u203 : u203.cell? ⟨gc, 10, none⟩ = some (.int .i64 2) := HC_u203.out.v_at 10 _ rfl; have kx2_u203 : u203.cell? ⟨gc, 11, none⟩ = some (.int .i64 29) := HC_u203.out.v_at 11 _ rfl; have kx3_u203 : u203.cell? ⟨gw, 3, none⟩ = some (.int .i64 3) := HW_u203.out.v_at 3 _ rfl; clear hb)
                | (go_at_call 3; (with_reducible show Calls _ _ _ u203 _); refine (l3.out _ HB_u203.out.below).mono ?_; rintro e u204 ⟨rfl, hb⟩; have HB_u204 := Kp.mk (HB_u203.out.step hb); have HC_u204 := Kp.mk (HC_u203.out.step hb); have HW_u204 := Kp.mk (HW_u203.out.step hb); have kx0_u204 : u204.cell? ⟨gc, 9, none⟩ = some (.int .i64 2024) := HC_u204.out.v_at 9 _ rfl; have kx1_u204 : u204.cell? ⟨gc, 10, none⟩ = some (.int .i64 2) := HC_u204.out.v_at 10 _ rfl; have kx2_u204 : u204.cell? ⟨gc, 11, none⟩ = some (.int .i64 29) := HC_u204.out.v_at 11 _ rfl; have kx3_u204 : u204.cell? ⟨gw, 3, none⟩ = some (.int .i64 3) := HW_u204.out.v_at 3 _ rfl; clear hb))
            have HB := HB_u204
            have HC := HC_u204
            have HW := HW_u204
            clear kx0 kx1 kx2 kx3
            go_wp2_with fail
            go_roundw
            case rel =>
              first
                | exact ⟨4, by omega, rfl, HC, HW⟩
                | ((repeat apply Exists.intro); exact ⟨⟨4, by omega, rfl, HC, HW⟩, rfl⟩)
            case measure => simp [intOf]
          · clear hlt hk
            have ke0 : wr.cell? ⟨gc, 12, none⟩ = some (.int .i64 1) := HC.out.v_at 12 _ rfl
            have ke1 : wr.cell? ⟨gc, 13, none⟩ = some (.int .i64 1) := HC.out.v_at 13 _ rfl
            have ke2 : wr.cell? ⟨gc, 14, none⟩ = some (.int .i64 1) := HC.out.v_at 14 _ rfl
            go_wp2_with fail
            refine (d4.out _ HB.out.below).mono ?_
            rintro e u201 ⟨rfl, hbl⟩
            have HB := Kp.mk (HB.out.step hbl)
            have HC := Kp.mk (HC.out.step hbl)
            have HW := Kp.mk (HW.out.step hbl)
            clear hbl
            clear ke0 ke1 ke2
            go_upto_region 12 with fail
            have kx0 : u201.cell? ⟨gc, 12, none⟩ = some (.int .i64 1) := HC.out.v_at 12 _ rfl
            have kx1 : u201.cell? ⟨gc, 13, none⟩ = some (.int .i64 1) := HC.out.v_at 13 _ rfl
            have kx2 : u201.cell? ⟨gc, 14, none⟩ = some (.int .i64 1) := HC.out.v_at 14 _ rfl
            have kx3 : u201.cell? ⟨gw, 4, none⟩ = some (.int .i64 0) := HW.out.v_at 4 _ rfl
            have hbl := (Below.refl u201.heap.size u201).drew
            have HBz := Kp.mk (HB.out.step hbl)
            have HCz := Kp.mk (HC.out.step hbl)
            have HWz := Kp.mk (HW.out.step hbl)
            clear hbl
            go_region_held3 (fun w' => w'.cell? ⟨gc, 12, none⟩ = some (.int .i64 1) ∧ w'.cell? ⟨gc, 13, none⟩ = some (.int .i64 1) ∧ w'.cell? ⟨gc, 14, none⟩ = some (.int .i64 1) ∧ w'.cell? ⟨gw, 4, none⟩ = some (.int .i64 0)) (first | go_keep | exact ⟨kx0_u202, kx1_u202, kx2_u202, kx3_u202⟩ | exact ⟨kx0_u203, kx1_u203, kx2_u203, kx3_u203⟩ | exact ⟨kx0_u204, kx1_u204, kx2_u204, kx3_u204⟩)
              (first
                | (go_at_call 20; (with_reducible show Calls _ _ _ u201.drew _); refine (w4.out _ HBz.out.below).mono ?_; rintro e u202 ⟨rfl, hb⟩; have HB_u202 := Kp.mk (HBz.out.step hb); have HC_u202 := Kp.mk (HCz.out.step hb); have HW_u202 := Kp.mk (HWz.out.step hb); have kx0_u202 : u202.cell? ⟨gc, 12, none⟩ = some (.int .i64 1) := HC_u202.out.v_at 12 _ rfl; have kx1_u202 : u202.cell? ⟨gc, 13, none⟩ = some (.int .i64 1) := HC_u202.out.v_at 13 _ rfl; have kx2_u202 : u202.cell? ⟨gc, 14, none⟩ = some (.int .i64 1) := HC_u202.out.v_at 14 _ rfl; have kx3_u202 : u202.cell? ⟨gw, 4, none⟩ = some (.int .i64 0) := HW_u202.out.v_at 4 _ rfl; clear hb)
                | (go_at_call 6; (with_reducible show Calls _ _ _ u202 _); refine (t4.out _ HB_u202.out.below).mono ?_; rintro e u203 ⟨rfl, hb⟩; have HB_u203 := Kp.mk (HB_u202.out.step hb); have HC_u203 := Kp.mk (HC_u202.out.step hb); have HW_u203 := Kp.mk (HW_u202.out.step hb); have kx0_u203 : u203.cell? ⟨gc, 12, none⟩ = some (.int .i64 1) := HC_u203.out.v_at 12 _ rfl; have kx1_u203 : u203.cell? ⟨gc, 13, none⟩ = some (.int .i64 1) := HC_u203.out.v_at 13 _ rfl; have kx2_u203 : u203.cell? ⟨gc, 14, none⟩ = some (.int .i64 1) := HC_u203.out.v_at 14 _ rfl; have kx3_u203 : u203.cell? ⟨gw, 4, none⟩ = some (.int .i64 0) := HW_u203.out.v_at 4 _ rfl; clear hb)
                | (go_at_call 3; (with_reducible show Calls _ _ _ u203 _); refine (l4.out _ HB_u203.out.below).mono ?_; rintro e u204 ⟨rfl, hb⟩; have HB_u204 := Kp.mk (HB_u203.out.step hb); have HC_u204 := Kp.mk (HC_u203.out.step hb); have HW_u204 := Kp.mk (HW_u203.out.step hb); have kx0_u204 : u204.cell? ⟨gc, 12, none⟩ = some (.int .i64 1) := HC_u204.out.v_at 12 _ rfl; have kx1_u204 : u204.cell? ⟨gc, 13, none⟩ = some (.int .i64 1) := HC_u204.out.v_at 13 _ rfl; have kx2_u204 : u204.cell? ⟨gc, 14, none⟩ = some (.int .i64 1) := HC_u204.out.v_at 14 _ rfl; have kx3_u204 : u204.cell? ⟨gw, 4, none⟩ = some (.int .i64 0) := HW_u204.out.v_at 4 _ rfl; clear hb))
            have HB := HB_u204
            have HC := HC_u204
            have HW := HW_u204
            clear kx0 kx1 kx2 kx3
            go_wp2_with fail
            go_roundw
            case rel =>
              first
                | exact ⟨5, by omega, rfl, HC, HW⟩
                | ((repeat apply Exists.intro); exact ⟨⟨5, by omega, rfl, HC, HW⟩, rfl⟩)
            case measure => simp [intOf]
          · clear hlt hk
            have ke0 : wr.cell? ⟨gc, 15, none⟩ = some (.int .i64 (-1)) := HC.out.v_at 15 _ rfl
            have ke1 : wr.cell? ⟨gc, 16, none⟩ = some (.int .i64 12) := HC.out.v_at 16 _ rfl
            have ke2 : wr.cell? ⟨gc, 17, none⟩ = some (.int .i64 31) := HC.out.v_at 17 _ rfl
            go_wp2_with fail
            refine (d5.out _ HB.out.below).mono ?_
            rintro e u201 ⟨rfl, hbl⟩
            have HB := Kp.mk (HB.out.step hbl)
            have HC := Kp.mk (HC.out.step hbl)
            have HW := Kp.mk (HW.out.step hbl)
            clear hbl
            clear ke0 ke1 ke2
            go_upto_region 12 with fail
            have kx0 : u201.cell? ⟨gc, 15, none⟩ = some (.int .i64 (-1)) := HC.out.v_at 15 _ rfl
            have kx1 : u201.cell? ⟨gc, 16, none⟩ = some (.int .i64 12) := HC.out.v_at 16 _ rfl
            have kx2 : u201.cell? ⟨gc, 17, none⟩ = some (.int .i64 31) := HC.out.v_at 17 _ rfl
            have kx3 : u201.cell? ⟨gw, 5, none⟩ = some (.int .i64 4) := HW.out.v_at 5 _ rfl
            have hbl := (Below.refl u201.heap.size u201).drew
            have HBz := Kp.mk (HB.out.step hbl)
            have HCz := Kp.mk (HC.out.step hbl)
            have HWz := Kp.mk (HW.out.step hbl)
            clear hbl
            go_region_held3 (fun w' => w'.cell? ⟨gc, 15, none⟩ = some (.int .i64 (-1)) ∧ w'.cell? ⟨gc, 16, none⟩ = some (.int .i64 12) ∧ w'.cell? ⟨gc, 17, none⟩ = some (.int .i64 31) ∧ w'.cell? ⟨gw, 5, none⟩ = some (.int .i64 4)) (first | go_keep | exact ⟨kx0_u202, kx1_u202, kx2_u202, kx3_u202⟩ | exact ⟨kx0_u203, kx1_u203, kx2_u203, kx3_u203⟩ | exact ⟨kx0_u204, kx1_u204, kx2_u204, kx3_u204⟩)
              (first
                | (go_at_call 20; (with_reducible show Calls _ _ _ u201.drew _); refine (w5.out _ HBz.out.below).mono ?_; rintro e u202 ⟨rfl, hb⟩; have HB_u202 := Kp.mk (HBz.out.step hb); have HC_u202 := Kp.mk (HCz.out.step hb); have HW_u202 := Kp.mk (HWz.out.step hb); have kx0_u202 : u202.cell? ⟨gc, 15, none⟩ = some (.int .i64 (-1)) := HC_u202.out.v_at 15 _ rfl; have kx1_u202 : u202.cell? ⟨gc, 16, none⟩ = some (.int .i64 12) := HC_u202.out.v_at 16 _ rfl; have kx2_u202 : u202.cell? ⟨gc, 17, none⟩ = some (.int .i64 31) := HC_u202.out.v_at 17 _ rfl; have kx3_u202 : u202.cell? ⟨gw, 5, none⟩ = some (.int .i64 4) := HW_u202.out.v_at 5 _ rfl; clear hb)
                | (go_at_call 6; (with_reducible show Calls _ _ _ u202 _); refine (t5.out _ HB_u202.out.below).mono ?_; rintro e u203 ⟨rfl, hb⟩; have HB_u203 := Kp.mk (HB_u202.out.step hb); have HC_u203 := Kp.mk (HC_u202.out.step hb); have HW_u203 := Kp.mk (HW_u202.out.step hb); have kx0_u203 : u203.cell? ⟨gc, 15, none⟩ = some (.int .i64 (-1)) := HC_u203.out.v_at 15 _ rfl; have kx1_u203 : u203.cell? ⟨gc, 16, none⟩ = some (.int .i64 12) := HC_u203.out.v_at 16 _ rfl; have kx2_u203 : u203.cell? ⟨gc, 17, none⟩ = some (.int .i64 31) := HC_u203.out.v_at 17 _ rfl; have kx3_u203 : u203.cell? ⟨gw, 5, none⟩ = some (.int .i64 4) := HW_u203.out.v_at 5 _ rfl; clear hb)
                | (go_at_call 3; (with_reducible show Calls _ _ _ u203 _); refine (l5.out _ HB_u203.out.below).mono ?_; rintro e u204 ⟨rfl, hb⟩; have HB_u204 := Kp.mk (HB_u203.out.step hb); have HC_u204 := Kp.mk (HC_u203.out.step hb); have HW_u204 := Kp.mk (HW_u203.out.step hb); have kx0_u204 : u204.cell? ⟨gc, 15, none⟩ = some (.int .i64 (-1)) := HC_u204.out.v_at 15 _ rfl; have kx1_u204 : u204.cell? ⟨gc, 16, none⟩ = some (.int .i64 12) := HC_u204.out.v_at 16 _ rfl; have kx2_u204 : u204.cell? ⟨gc, 17, none⟩ = some (.int .i64 31) := HC_u204.out.v_at 17 _ rfl; have kx3_u204 : u204.cell? ⟨gw, 5, none⟩ = some (.int .i64 4) := HW_u204.out.v_at 5 _ rfl; clear hb))
            have HB := HB_u204
            have HC := HC_u204
            have HW := HW_u204
            clear kx0 kx1 kx2 kx3
            go_wp2_with fail
            go_roundw
            case rel =>
              first
                | exact ⟨6, by omega, rfl, HC, HW⟩
                | ((repeat apply Exists.intro); exact ⟨⟨6, by omega, rfl, HC, HW⟩, rfl⟩)
            case measure => simp [intOf]
        · obtain rfl : k = 6 := by omega
          clear hlt hk c0 d0 w0 t0 l0 c1 d1 w1 t1 l1 c2 d2 w2 t2 l2 c3 d3 w3 t3 l3 c4 d4 w4 t4 l4 c5 d5 w5 t5 l5 ro s1 s2
          go_wp2_with fail
          have HS := Kp.mk (vals_new [.string ⟨#[]⟩, .string ⟨#[45]⟩, .string ⟨#[48, 48, 48, 48, 45, 48, 49, 45, 48, 49]⟩, .string ⟨#[49, 48, 48, 48, 48, 48, 48, 48, 48, 48, 48, 48, 48, 48, 48, 48, 48, 45, 49, 50, 45, 51, 49]⟩, .string ⟨#[49, 48, 48, 48, 48, 48, 48, 48, 48, 48, 48, 48, 48, 48, 48, 48, 49, 45, 48, 49, 45, 48, 49]⟩, .string ⟨#[45, 49, 48, 48, 48, 48, 48, 48, 48, 48, 48, 48, 48, 48, 48, 48, 48, 48, 45, 48, 49, 45, 48, 49]⟩, .string ⟨#[57, 57, 57, 57, 57, 57, 57, 57, 57, 57, 57, 57, 57, 57, 57, 57, 57, 57, 57, 57, 57, 57, 57, 45, 48, 49, 45, 48, 49]⟩, .string ⟨#[48, 48, 48, 48, 49, 45, 48, 49, 45, 48, 49]⟩, .string ⟨#[50, 48, 48, 48, 45, 48, 49, 45, 48, 49, 32]⟩, .string ⟨#[50, 48, 48, 48, 45, 48, 49, 45, 48, 49, 49]⟩, .string ⟨#[50, 48, 48, 48, 45, 45, 49, 45, 48, 49]⟩, .string ⟨#[50, 48, 48, 48, 45, 48, 49, 45, 45, 49]⟩, .string ⟨#[50, 48, 88, 48, 45, 48, 49, 45, 48, 49]⟩, .string ⟨#[50, 48, 48, 48, 47, 48, 49, 47, 48, 49]⟩, .string ⟨#[45, 50, 48, 48, 48, 45, 49, 50, 45, 51, 49]⟩, .string ⟨#[45, 45, 50, 48, 48, 48, 45, 49, 50, 45, 51, 49]⟩, .string ⟨#[50, 48, 48, 48, 45, 48, 48, 45, 49, 48]⟩, .string ⟨#[50, 48, 48, 48, 45, 49, 51, 45, 49, 48]⟩, .string ⟨#[50, 48, 48, 48, 45, 48, 49, 45, 48, 48]⟩, .string ⟨#[50, 48, 48, 48, 45, 48, 49, 45, 51, 50]⟩] 9 HB.out.below)
          have HLs := Kp.mk strs_at
          clear HB HC HW
          change Code.wp _ _ _ _ (wr.alloc (.cells #[.string ⟨#[]⟩, .string ⟨#[45]⟩, .string ⟨#[48, 48, 48, 48, 45, 48, 49, 45, 48, 49]⟩, .string ⟨#[49, 48, 48, 48, 48, 48, 48, 48, 48, 48, 48, 48, 48, 48, 48, 48, 48, 45, 49, 50, 45, 51, 49]⟩, .string ⟨#[49, 48, 48, 48, 48, 48, 48, 48, 48, 48, 48, 48, 48, 48, 48, 48, 49, 45, 48, 49, 45, 48, 49]⟩, .string ⟨#[45, 49, 48, 48, 48, 48, 48, 48, 48, 48, 48, 48, 48, 48, 48, 48, 48, 48, 45, 48, 49, 45, 48, 49]⟩, .string ⟨#[57, 57, 57, 57, 57, 57, 57, 57, 57, 57, 57, 57, 57, 57, 57, 57, 57, 57, 57, 57, 57, 57, 57, 45, 48, 49, 45, 48, 49]⟩, .string ⟨#[48, 48, 48, 48, 49, 45, 48, 49, 45, 48, 49]⟩, .string ⟨#[50, 48, 48, 48, 45, 48, 49, 45, 48, 49, 32]⟩, .string ⟨#[50, 48, 48, 48, 45, 48, 49, 45, 48, 49, 49]⟩, .string ⟨#[50, 48, 48, 48, 45, 45, 49, 45, 48, 49]⟩, .string ⟨#[50, 48, 48, 48, 45, 48, 49, 45, 45, 49]⟩, .string ⟨#[50, 48, 88, 48, 45, 48, 49, 45, 48, 49]⟩, .string ⟨#[50, 48, 48, 48, 47, 48, 49, 47, 48, 49]⟩, .string ⟨#[45, 50, 48, 48, 48, 45, 49, 50, 45, 51, 49]⟩, .string ⟨#[45, 45, 50, 48, 48, 48, 45, 49, 50, 45, 51, 49]⟩, .string ⟨#[50, 48, 48, 48, 45, 48, 48, 45, 49, 48]⟩, .string ⟨#[50, 48, 48, 48, 45, 49, 51, 45, 49, 48]⟩, .string ⟨#[50, 48, 48, 48, 45, 48, 49, 45, 48, 48]⟩, .string ⟨#[50, 48, 48, 48, 45, 48, 49, 45, 51, 50]⟩] 9))
          generalize wr.alloc (.cells #[.string ⟨#[]⟩, .string ⟨#[45]⟩, .string ⟨#[48, 48, 48, 48, 45, 48, 49, 45, 48, 49]⟩, .string ⟨#[49, 48, 48, 48, 48, 48, 48, 48, 48, 48, 48, 48, 48, 48, 48, 48, 48, 45, 49, 50, 45, 51, 49]⟩, .string ⟨#[49, 48, 48, 48, 48, 48, 48, 48, 48, 48, 48, 48, 48, 48, 48, 48, 49, 45, 48, 49, 45, 48, 49]⟩, .string ⟨#[45, 49, 48, 48, 48, 48, 48, 48, 48, 48, 48, 48, 48, 48, 48, 48, 48, 48, 45, 48, 49, 45, 48, 49]⟩, .string ⟨#[57, 57, 57, 57, 57, 57, 57, 57, 57, 57, 57, 57, 57, 57, 57, 57, 57, 57, 57, 57, 57, 57, 57, 45, 48, 49, 45, 48, 49]⟩, .string ⟨#[48, 48, 48, 48, 49, 45, 48, 49, 45, 48, 49]⟩, .string ⟨#[50, 48, 48, 48, 45, 48, 49, 45, 48, 49, 32]⟩, .string ⟨#[50, 48, 48, 48, 45, 48, 49, 45, 48, 49, 49]⟩, .string ⟨#[50, 48, 48, 48, 45, 45, 49, 45, 48, 49]⟩, .string ⟨#[50, 48, 48, 48, 45, 48, 49, 45, 45, 49]⟩, .string ⟨#[50, 48, 88, 48, 45, 48, 49, 45, 48, 49]⟩, .string ⟨#[50, 48, 48, 48, 47, 48, 49, 47, 48, 49]⟩, .string ⟨#[45, 50, 48, 48, 48, 45, 49, 50, 45, 51, 49]⟩, .string ⟨#[45, 45, 50, 48, 48, 48, 45, 49, 50, 45, 51, 49]⟩, .string ⟨#[50, 48, 48, 48, 45, 48, 48, 45, 49, 48]⟩, .string ⟨#[50, 48, 48, 48, 45, 49, 51, 45, 49, 48]⟩, .string ⟨#[50, 48, 48, 48, 45, 48, 49, 45, 48, 48]⟩, .string ⟨#[50, 48, 48, 48, 45, 48, 49, 45, 51, 50]⟩] 9) = v1 at *
          generalize wr.heap.size = gl at *
          generalize ([.string ⟨#[]⟩, .string ⟨#[45]⟩, .string ⟨#[48, 48, 48, 48, 45, 48, 49, 45, 48, 49]⟩, .string ⟨#[49, 48, 48, 48, 48, 48, 48, 48, 48, 48, 48, 48, 48, 48, 48, 48, 48, 45, 49, 50, 45, 51, 49]⟩, .string ⟨#[49, 48, 48, 48, 48, 48, 48, 48, 48, 48, 48, 48, 48, 48, 48, 48, 49, 45, 48, 49, 45, 48, 49]⟩, .string ⟨#[45, 49, 48, 48, 48, 48, 48, 48, 48, 48, 48, 48, 48, 48, 48, 48, 48, 48, 45, 48, 49, 45, 48, 49]⟩, .string ⟨#[57, 57, 57, 57, 57, 57, 57, 57, 57, 57, 57, 57, 57, 57, 57, 57, 57, 57, 57, 57, 57, 57, 57, 45, 48, 49, 45, 48, 49]⟩, .string ⟨#[48, 48, 48, 48, 49, 45, 48, 49, 45, 48, 49]⟩, .string ⟨#[50, 48, 48, 48, 45, 48, 49, 45, 48, 49, 32]⟩, .string ⟨#[50, 48, 48, 48, 45, 48, 49, 45, 48, 49, 49]⟩, .string ⟨#[50, 48, 48, 48, 45, 45, 49, 45, 48, 49]⟩, .string ⟨#[50, 48, 48, 48, 45, 48, 49, 45, 45, 49]⟩, .string ⟨#[50, 48, 88, 48, 45, 48, 49, 45, 48, 49]⟩, .string ⟨#[50, 48, 48, 48, 47, 48, 49, 47, 48, 49]⟩, .string ⟨#[45, 50, 48, 48, 48, 45, 49, 50, 45, 51, 49]⟩, .string ⟨#[45, 45, 50, 48, 48, 48, 45, 49, 50, 45, 51, 49]⟩, .string ⟨#[50, 48, 48, 48, 45, 48, 48, 45, 49, 48]⟩, .string ⟨#[50, 48, 48, 48, 45, 49, 51, 45, 49, 48]⟩, .string ⟨#[50, 48, 48, 48, 45, 48, 49, 45, 48, 48]⟩, .string ⟨#[50, 48, 48, 48, 45, 48, 49, 45, 51, 50]⟩] : List Value) = LS at HS HLs
          go_loopw [8] (fun i wr => ∃ k : Nat, k ≤ 20 ∧ i = .int .i64 k ∧ Kp (Vals w gl LS wr)) (fun i _ => 20 - (intOf i).toNat)
          case atStart => exact ⟨0, by omega, rfl, HS⟩
          case round =>
            obtain ⟨k, hk, rfl, HS⟩ := hrel
            have HB := Kp.mk (Bl.mk HS.out.below)
            by_cases hlt : k < 20
            · obtain ⟨s, hs⟩ := HLs.out k hlt
              have cs := HS.out.v_at k _ hs
              have w1 : IntKind.i64.wrap ((k : Int) + 1) = (k : Int) + 1 := IntWalk.i64_in _ (by omega)
              clear hs
              go_wp2_with fail
              refine (rp.out _ HB.out.below _).mono ?_
              rintro e x1 ⟨rfl, hbl⟩
              have HS := Kp.mk (HS.out.step hbl)
              clear hbl cs HB
              go_wp2_with fail
              go_roundw
              case rel =>
                first
                  | exact ⟨k + 1, by omega, by go_num, HS⟩
                  | ((repeat apply Exists.intro); exact ⟨⟨k + 1, by omega, by go_num, HS⟩, rfl⟩)
              case measure => simp [intOf]; omega
            · obtain rfl : k = 20 := by omega
              clear hlt hk
              go_wp2_with fail
              refine (x1.out _ HB.out.below).mono ?_
              rintro e u301 ⟨rfl, hbl⟩
              have HB := Kp.mk (HB.out.step hbl)
              clear hbl
              go_wp2_with fail
              refine (x2.out _).mono ?_
              rintro e w' ⟨rfl, rfl⟩
              go_wp2_with fail
              refine (x3.out _ HB.out.below).mono ?_
              rintro e u302 ⟨rfl, hbl⟩
              have HB := Kp.mk (HB.out.step hbl)
              clear hbl
              go_wp2_with fail
              refine (x4.out _).mono ?_
              rintro e w' ⟨rfl, rfl⟩
              go_wp2_with fail
              refine (x5.out _).mono ?_
              rintro e u303 ⟨rfl, hbl⟩
              have HB := Kp.mk (HB.out.step hbl)
              clear hbl
              go_wp2_with fail
              refine (x6.out _ HB.out.below).mono ?_
              rintro e u304 ⟨rfl, hbl⟩
              have HB := Kp.mk (HB.out.step hbl)
              clear hbl
              go_wp2_with fail
              refine (x7.out _).mono ?_
              rintro e u305 ⟨rfl, hbl⟩
              have HB := Kp.mk (HB.out.step hbl)
              clear hbl
              go_wp2_with fail
              refine (x8.out _ HB.out.below).mono ?_
              rintro e u306 ⟨rfl, hbl⟩
              have HB := Kp.mk (HB.out.step hbl)
              clear hbl
              go_wp2_with fail
              refine (rl.out _ HB.out.below).mono ?_
              rintro e u307 ⟨rfl, hbl⟩
              have HB := Kp.mk (HB.out.step hbl)
              clear hbl
              go_wp2_with fail
              go_ret
              exact ⟨rfl, HB.out.below⟩
end Go.Proofs.YtoafigehcgledaaGreatDoor
