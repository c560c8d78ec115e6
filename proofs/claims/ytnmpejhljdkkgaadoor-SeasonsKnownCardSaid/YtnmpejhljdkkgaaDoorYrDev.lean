/-
  DERIVED. CONTRACTS of package years: the table, divide, leapsTo, start.
-/
import Derived.Test.YtnmpejhljdkkgaaDoorIntsDiv
import Derived.Test.YtnmpejhljdkkgaaDoorYrMath
import Derived.Deep.RegionHeld3
namespace Go.Proofs.YtnmpejhljdkkgaaDoor
open Go.RowKit

/-- the table as every world of a call has it -/
structure Laid (w : World) : Prop where
  size : 2 < w.heap.size
  r0 : w.cell? ⟨2, 0, none⟩ = some (.int .i64 4)
  r1 : w.cell? ⟨2, 1, none⟩ = some (.int .i64 1)
  r2 : w.cell? ⟨2, 2, none⟩ = some (.int .i64 100)
  r3 : w.cell? ⟨2, 3, none⟩ = some (.int .i64 (-1))
  r4 : w.cell? ⟨2, 4, none⟩ = some (.int .i64 400)
  r5 : w.cell? ⟨2, 5, none⟩ = some (.int .i64 1)
theorem Laid.below {w w' : World} (h : Laid w) (hb : Below w.heap.size w w') : Laid w' :=
  ⟨by have := hb.size; have := h.size; omega,
   by rw [hb.cell (p := ⟨2, 0, none⟩) h.size]; exact h.r0,
   by rw [hb.cell (p := ⟨2, 1, none⟩) h.size]; exact h.r1,
   by rw [hb.cell (p := ⟨2, 2, none⟩) h.size]; exact h.r2,
   by rw [hb.cell (p := ⟨2, 3, none⟩) h.size]; exact h.r3,
   by rw [hb.cell (p := ⟨2, 4, none⟩) h.size]; exact h.r4,
   by rw [hb.cell (p := ⟨2, 5, none⟩) h.size]; exact h.r5⟩

theorem fmd_mod (a b : Int) (h : 0 < b) : fmd a b = a % b := by
  have h1 := fdv_fmd a b
  have h2 := Int.mul_ediv_add_emod a b
  rw [fdv_floor a b h, Int.mul_comm] at h1
  omega
theorem div_is {n k q : Int} (h0 : -9223372036854775808 ≤ n) (h1 : n ≤ 9223372036854775807) (k0 : 0 < k) (hq : n / k = q) (w : World) :
    Calls Tryd.prog 41 #[.int .i64 n, .int .i64 k] w fun e w' => e = .returned (.tuple #[.int .i64 q, .int .i64 0]) ∧ w = w' := by
  have h := div_any n k w h0 h1 (by omega) (by omega)
  rw [fdv_floor n k k0, hq] at h
  exact h
theorem mod_is {n k q : Int} (h0 : -9223372036854775808 ≤ n) (h1 : n ≤ 9223372036854775807) (k0 : 0 < k) (k1 : k ≤ 9223372036854775807) (hq : n % k = q) (w : World) :
    Calls Tryd.prog 42 #[.int .i64 n, .int .i64 k] w fun e w' => e = .returned (.tuple #[.int .i64 q, .int .i64 0]) ∧ w = w' := by
  have h := mod_any n k w h0 h1 (by omega) k1 (by omega)
  rw [fmd_mod n k k0, hq] at h
  exact h
theorem divide_is {n k q r : Int} (h0 : -9223372036854775808 ≤ n) (h1 : n ≤ 9223372036854775807) (k0 : 0 < k) (k1 : k ≤ 9223372036854775807) (hq : n / k = q) (hr : n % k = r) (w : World) :
    Calls Tryd.prog 45 #[.int .i64 n, .int .i64 k] w fun e w' => e = .returned (.tuple #[.int .i64 q, .int .i64 r]) ∧ w = w' := by
  have HD := Kp.mk (fun w => div_is h0 h1 k0 hq w)
  have HM := Kp.mk (fun w => mod_is h0 h1 k0 k1 hr w)
  clear h0 h1 k0 k1 hq hr
  go_enter Tryd.func45, Tryd.ntmps45
  go_wp2_with fail
  refine (HD.out _).mono ?_
  rintro e w' ⟨rfl, rfl⟩
  go_wp2_with fail
  refine (HM.out _).mono ?_
  rintro e w' ⟨rfl, rfl⟩
  go_wp2_with fail
  go_ret2
  exact ⟨rfl, rfl⟩

/-- the leap years behind the year 0 up to y -/
def qs (y : Int) : Int := y / 4 - y / 100 + y / 400
theorem qs_Lp (y : Int) : Lp (y + 1) = qs y + 1 := by unfold Lp qs; omega
theorem qs_neg : qs (-1) = -1 := by decide
theorem idx0 (w : World) : (Instr.index 84 (.agg #[.int .i64 4, .int .i64 1, .int .i64 100, .int .i64 (-1), .int .i64 400, .int .i64 1]) (.int .i64 0)).run Tryd.prog w = .ok (.agg #[.int .i64 4, .int .i64 1]) w := by
  simp [Instr.index, run_underlying Tryd.underlying84, asIntOf, go_sem]
theorem idx1 (w : World) : (Instr.index 84 (.agg #[.int .i64 4, .int .i64 1, .int .i64 100, .int .i64 (-1), .int .i64 400, .int .i64 1]) (.int .i64 1)).run Tryd.prog w = .ok (.agg #[.int .i64 100, .int .i64 (-1)]) w := by
  simp [Instr.index, run_underlying Tryd.underlying84, asIntOf, go_sem]
theorem idx2 (w : World) : (Instr.index 84 (.agg #[.int .i64 4, .int .i64 1, .int .i64 100, .int .i64 (-1), .int .i64 400, .int .i64 1]) (.int .i64 2)).run Tryd.prog w = .ok (.agg #[.int .i64 400, .int .i64 1]) w := by
  simp [Instr.index, run_underlying Tryd.underlying84, asIntOf, go_sem]
set_option maxHeartbeats 2000000 in
theorem leapsTo_is {y v : Int} (h0 : -9223372036854775808 ≤ y) (h1 : y ≤ 9223372036854775807) (hv : qs y = v) (w : World) (hL : Laid w) :
    Calls Tryd.prog 50 #[.int .i64 y] w fun e w' => e = .returned (.int .i64 v) ∧ Below w.heap.size w w' := by
  obtain ⟨a, ha⟩ : ∃ a, y / 4 = a := ⟨_, rfl⟩
  obtain ⟨b, hb⟩ : ∃ b, y / 100 = b := ⟨_, rfl⟩
  obtain ⟨c, hc⟩ : ∃ c, y / 400 = c := ⟨_, rfl⟩
  have hv2 : a - b + c = v := by rw [← hv, ← ha, ← hb, ← hc]; rfl
  have d1 := Kp.mk (fun w => divide_is (k := 4) h0 h1 (by omega) (by omega) ha rfl w)
  have d2 := Kp.mk (fun w => divide_is (k := 100) h0 h1 (by omega) (by omega) hb rfl w)
  have d3 := Kp.mk (fun w => divide_is (k := 400) h0 h1 (by omega) (by omega) hc rfl w)
  have w1 : IntKind.i64.wrap a = a := IntWalk.i64_in _ (by omega)
  have w2 : IntKind.i64.wrap (-b) = -b := IntWalk.i64_in _ (by omega)
  have w3 : IntKind.i64.wrap c = c := IntWalk.i64_in _ (by omega)
  have w4 : IntKind.i64.wrap (a + -b) = a - b := by rw [show a + -b = a - b by omega]; exact IntWalk.i64_in _ (by omega)
  have w5 : IntKind.i64.wrap (a - b + c) = v := by rw [← hv2]; exact IntWalk.i64_in _ (by omega)
  have w6 : IntKind.i64.wrap v = v := IntWalk.i64_in _ (by omega)
  generalize y % 4 = m1 at d1
  generalize y % 100 = m2 at d2
  generalize y % 400 = m3 at d3
  have c0 := hL.r0
  have c1 := hL.r1
  have c2 := hL.r2
  have c3 := hL.r3
  have c4 := hL.r4
  have c5 := hL.r5
  have HB := Kp.mk (Below.refl w.heap.size w)
  clear h0 h1 ha hb hc hv hL
  go_enter Tryd.func50, Tryd.ntmps50
  go_wp2_with fail
  go_loopw [3, 9] (fun s i wr => ∃ k : Nat, k ≤ 3 ∧ i = .int .i64 k ∧ s = .int .i64 (if k = 0 then 0 else if k = 1 then a else if k = 2 then a - b else v) ∧ Kp (Below w.heap.size w wr)) (fun _ i _ => 3 - (intOf i).toNat)
  case atStart => exact ⟨0, by omega, rfl, rfl, HB⟩
  case round =>
    obtain ⟨k, hk, rfl, rfl, HB⟩ := hrel
    rcases (show k = 0 ∨ k = 1 ∨ k = 2 ∨ k = 3 by omega) with rfl | rfl | rfl | rfl
    · clear c0 c1 c2 c3 c4 c5
      have hX := idx0
      go_wp2_with fail
      refine (d1.out _).mono ?_
      rintro e w' ⟨rfl, rfl⟩
      go_wp2_with fail
      exact ⟨⟨1, by omega, rfl, rfl, Kp.mk (HB.out.alloc HB.out.size _)⟩, by simp [intOf]⟩
    · clear c0 c1 c2 c3 c4 c5
      have hX := idx1
      go_wp2_with fail
      refine (d2.out _).mono ?_
      rintro e w' ⟨rfl, rfl⟩
      go_wp2_with fail
      exact ⟨⟨2, by omega, rfl, rfl, Kp.mk (HB.out.alloc HB.out.size _)⟩, by simp [intOf]⟩
    · clear c0 c1 c2 c3 c4 c5
      have hX := idx2
      go_wp2_with fail
      refine (d3.out _).mono ?_
      rintro e w' ⟨rfl, rfl⟩
      go_wp2_with fail
      exact ⟨⟨3, by omega, rfl, rfl, Kp.mk (HB.out.alloc HB.out.size _)⟩, by simp [intOf]⟩
    · go_wp2_with fail
      go_ret
      exact ⟨rfl, HB.out⟩
theorem Sd_qs (y : Int) : Sd y = 365 * y + qs (y - 1) + 1 := by
  have h := qs_Lp (y - 1)
  rw [show y - 1 + 1 = y by omega] at h
  unfold Sd; omega
theorem qs_bound {y : Int} (h0 : -20000000000000000 ≤ y) (h1 : y ≤ 20000000000000000) : -20000000000000000 ≤ qs y ∧ qs y ≤ 20000000000000000 := by unfold qs; omega
set_option maxHeartbeats 1000000 in
theorem start_is {y v : Int} (h0 : -20000000000000000 + 1 ≤ y) (h1 : y ≤ 20000000000000000) (hv : Sd y = v) (w : World) (hL : Laid w) :
    Calls Tryd.prog 48 #[.int .i64 y] w fun e w' => e = .returned (.int .i64 v) ∧ Below w.heap.size w w' := by
  rw [Sd_qs] at hv
  have hqb := qs_bound (y := y - 1) (by omega) (by omega)
  obtain ⟨x, hx⟩ : ∃ x, qs (y - 1) = x := ⟨_, rfl⟩
  rw [hx] at hv hqb
  have d1 := Kp.mk (fun w => leapsTo_is (y := y - 1) (by omega) (by omega) hx w)
  have d2 := Kp.mk (fun w => leapsTo_is (y := -1) (by omega) (by omega) qs_neg w)
  have w1 : IntKind.i64.wrap (365 * y) = 365 * y := IntWalk.i64_in _ (by omega)
  have w2 : IntKind.i64.wrap (y - 1) = y - 1 := IntWalk.i64_in _ (by omega)
  have w3 : IntKind.i64.wrap (365 * y + x) = 365 * y + x := IntWalk.i64_in _ (by omega)
  have w4 : IntKind.i64.wrap (365 * y + x + 1) = v := by rw [hv]; exact IntWalk.i64_in _ (by omega)
  have w5 : IntKind.i64.wrap (365 * y + x - -1) = v := by rw [show 365 * y + x - -1 = 365 * y + x + 1 by omega]; exact w4
  have HL := Kp.mk hL
  clear h0 h1 hv hqb hx hL
  go_enter Tryd.func48, Tryd.ntmps48
  go_wp2_with fail
  refine (d1.out _ HL.out).mono ?_
  rintro e w' ⟨rfl, hb⟩
  have HB := Kp.mk hb
  clear hb
  go_wp2_with fail
  refine (d2.out _ (HL.out.below HB.out)).mono ?_
  rintro e w' ⟨rfl, hb⟩
  have HB := Kp.mk (HB.out.trans (hb.mono HB.out.size))
  clear hb
  go_wp2_with fail
  go_ret
  exact ⟨rfl, HB.out⟩
theorem check_in {y : Int} (hy : isY y = true) (w : World) : Calls Tryd.prog 38 #[.int .i64 y] w fun e w' => e = .returned (.int .i64 0) ∧ w = w' := by
  obtain ⟨h1, h2⟩ := (isY_iff y).1 hy
  clear hy
  go_enter Tryd.func38, Tryd.ntmps38
  go_wp2_with fail
  go_ret
  exact ⟨rfl, rfl⟩
theorem check_out {y : Int} (hy : isY y = false) (w : World) : Calls Tryd.prog 38 #[.int .i64 y] w fun e w' => e = .returned (.int .i64 6) ∧ w = w' := by
  have h : ¬ (-10000000000000000 ≤ y ∧ y ≤ 10000000000000000) := fun g => by rw [(isY_iff y).2 g] at hy; cases hy
  clear hy
  by_cases h1 : -10000000000000000 ≤ y
  · have h2 : ¬ y ≤ 10000000000000000 := fun g => h ⟨h1, g⟩
    clear h
    go_enter Tryd.func38, Tryd.ntmps38
    go_wp2_with fail
    go_ret
    exact ⟨rfl, rfl⟩
  · clear h
    go_enter Tryd.func38, Tryd.ntmps38
    go_wp2_with fail
    go_ret
    exact ⟨rfl, rfl⟩
end Go.Proofs.YtnmpejhljdkkgaaDoor
