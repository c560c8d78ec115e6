/-
  DERIVED. CONTRACTS of package ints that later layers call: quotients and remainders.
  DERIVED. CONTRACTS of package years: the table, divide, leapsTo, start.
  DERIVED. CONTRACTS of package years: the closure of Of, sort.Search with it.
  DERIVED. CONTRACTS of package years: Start, Leaps, Leap.
  DERIVED. CONTRACT of package years: Len.
-/
import Derived.Test.YtoafigehcgledaaGreatDoorPPa
import Derived.Lib.Hide
import Derived.BigQuiet
import Derived.Deep.QuietTactic
import Derived.Deep.RegionHeld3
namespace Go.Proofs.YtoafigehcgledaaGreatDoor
open Go.RowKit

set_option maxHeartbeats 400000 in
theorem differ_any (a b : Int) (w : World) :
    Calls Tryz.prog 68 #[.int .i64 a, .int .i64 b] w fun e w' => e = .returned (.bool (differB a b)) ∧ w = w' := by
  go_enter Tryz.func68, Tryz.ntmps68
  go_wp2
  go_ret
  exact ⟨ret_bool (by unfold differB; cases decide (a < 0) <;> cases decide (b < 0) <;> rfl), rfl⟩
theorem differ_is {a b : Int} {c : Bool} (h : differB a b = c) (w : World) :
    Calls Tryz.prog 68 #[.int .i64 a, .int .i64 b] w fun e w' => e = .returned (.bool c) ∧ w = w' := h ▸ differ_any a b w
set_option maxHeartbeats 400000 in
theorem mod_any (a b : Int) (w : World) (ha : -9223372036854775808 ≤ a) (ha' : a ≤ 9223372036854775807) (hb : -9223372036854775808 ≤ b) (hb' : b ≤ 9223372036854775807) (h : ¬ b = 0) :
    Calls Tryz.prog 42 #[.int .i64 a, .int .i64 b] w fun e w' => e = .returned (.tuple #[.int .i64 (fmd a b), .int .i64 0]) ∧ w = w' := by
  have hs := tmod_sign a b
  have hm := tmod_abs a b h
  by_cases g : a.tmod b = 0
  · have g1 : (a.tmod b != 0) = false := by simp [g]
    have hf : fmd a b = a.tmod b := by unfold fmd; rw [if_neg (fun c => c.1 g)]
    have HF := Lib.hid hf; clear hf hs hm
    have HG := Lib.hid g; clear g
    go_enter Tryz.func42, Tryz.ntmps42
    go_wp2_with fail
    go_ret2
    exact ⟨by rw [HF.out]; rfl, rfl⟩
  · have g1 : (a.tmod b != 0) = true := by simp [g]
    cases d : differB (a.tmod b) b with
    | true =>
      have hf : fmd a b = a.tmod b + b := by unfold fmd; rw [if_pos ⟨g, d⟩]
      have hr : -9223372036854775808 ≤ a.tmod b + b ∧ a.tmod b + b ≤ 9223372036854775807 := by have := of_differB d; omega
      have HF := Lib.hid hf; clear hf
      have HD := Lib.hid d; clear d
      obtain ⟨hr1, hr2⟩ := hr
      clear hs hm
      go_enter Tryz.func42, Tryz.ntmps42
      go_wp2_with (go_at_call 68; refine (differ_is HD.out _).mono ?_; rintro e w' ⟨rfl, rfl⟩)
      go_ret2
      exact ⟨by rw [HF.out]; rfl, rfl⟩
    | false =>
      have hf : fmd a b = a.tmod b := by unfold fmd; rw [if_neg (by simp [d])]
      have HF := Lib.hid hf; clear hf
      have HD := Lib.hid d; clear d
      clear hs hm
      go_enter Tryz.func42, Tryz.ntmps42
      go_wp2_with (go_at_call 68; refine (differ_is HD.out _).mono ?_; rintro e w' ⟨rfl, rfl⟩)
      go_ret2
      exact ⟨by rw [HF.out]; rfl, rfl⟩
set_option maxHeartbeats 400000 in
theorem div_any (a b : Int) (w : World) (ha : -9223372036854775808 ≤ a) (ha' : a ≤ 9223372036854775807) (h : ¬ b = 0) (hz : ¬ (a = -9223372036854775808 ∧ b = -1)) :
    Calls Tryz.prog 108 #[.int .i64 a, .int .i64 b] w fun e w' => e = .returned (.tuple #[.int .i64 (fdv a b), .int .i64 0]) ∧ w = w' := by
  obtain ⟨hq1, hq2⟩ := tdiv_bound a b ha ha' hz
  have g0 : (b == 0) = false := by simp [h]
  have hz2 : ((a == -9223372036854775808) = true ∧ (b == -1) = false) ∨ (a == -9223372036854775808) = false := by
    by_cases e : a = -9223372036854775808
    · exact .inl ⟨by simp [e], by simpa using fun g => hz ⟨e, g⟩⟩
    · exact .inr (by simp [e])
  clear hz
  by_cases g : a.tmod b = 0
  · have g1 : (a.tmod b != 0) = false := by simp [g]
    have hf : fdv a b = a.tdiv b := by unfold fdv; rw [if_neg (fun c => c.1 g)]
    have HF := Lib.hid hf; clear hf
    have HG := Lib.hid g; clear g
    rcases hz2 with ⟨z1, z2⟩ | z1
    all_goals
      go_enter Tryz.func108, Tryz.ntmps108
      go_wp2_with fail
      go_ret2
      exact ⟨by rw [HF.out]; rfl, rfl⟩
  · have g1 : (a.tmod b != 0) = true := by simp [g]
    have hl := tdiv_less a b ha ha' g
    have hr : -9223372036854775808 ≤ a.tdiv b - 1 ∧ a.tdiv b - 1 ≤ 9223372036854775807 := by omega
    obtain ⟨hr1, hr2⟩ := hr
    clear hl
    cases d : differB a b with
    | true =>
      have hf : fdv a b = a.tdiv b - 1 := by unfold fdv; rw [if_pos ⟨g, d⟩]
      have HF := Lib.hid hf; clear hf
      have HD := Lib.hid d; clear d
      rcases hz2 with ⟨z1, z2⟩ | z1
      all_goals
        go_enter Tryz.func108, Tryz.ntmps108
        go_wp2_with (go_at_call 68; refine (differ_is HD.out _).mono ?_; rintro e w' ⟨rfl, rfl⟩)
        go_ret2
        exact ⟨by rw [HF.out]; rfl, rfl⟩
    | false =>
      have hf : fdv a b = a.tdiv b := by unfold fdv; rw [if_neg (by simp [d])]
      have HF := Lib.hid hf; clear hf
      have HD := Lib.hid d; clear d
      rcases hz2 with ⟨z1, z2⟩ | z1
      all_goals
        go_enter Tryz.func108, Tryz.ntmps108
        go_wp2_with (go_at_call 68; refine (differ_is HD.out _).mono ?_; rintro e w' ⟨rfl, rfl⟩)
        go_ret2
        exact ⟨by rw [HF.out]; rfl, rfl⟩
end Go.Proofs.YtoafigehcgledaaGreatDoor
namespace Go.Proofs.YtoafigehcgledaaGreatDoor
open Go.RowKit

/-- the table as every world of a call has it -/
structure Laid (w : World) : Prop where
  size : 1 < w.heap.size
  r0 : w.cell? ⟨1, 0, none⟩ = some (.int .i64 4)
  r1 : w.cell? ⟨1, 1, none⟩ = some (.int .i64 1)
  r2 : w.cell? ⟨1, 2, none⟩ = some (.int .i64 100)
  r3 : w.cell? ⟨1, 3, none⟩ = some (.int .i64 (-1))
  r4 : w.cell? ⟨1, 4, none⟩ = some (.int .i64 400)
  r5 : w.cell? ⟨1, 5, none⟩ = some (.int .i64 1)
theorem Laid.below {w w' : World} (h : Laid w) (hb : Below w.heap.size w w') : Laid w' :=
  ⟨by have := hb.size; have := h.size; omega,
   by rw [hb.cell (p := ⟨1, 0, none⟩) h.size]; exact h.r0,
   by rw [hb.cell (p := ⟨1, 1, none⟩) h.size]; exact h.r1,
   by rw [hb.cell (p := ⟨1, 2, none⟩) h.size]; exact h.r2,
   by rw [hb.cell (p := ⟨1, 3, none⟩) h.size]; exact h.r3,
   by rw [hb.cell (p := ⟨1, 4, none⟩) h.size]; exact h.r4,
   by rw [hb.cell (p := ⟨1, 5, none⟩) h.size]; exact h.r5⟩

theorem fmd_mod (a b : Int) (h : 0 < b) : fmd a b = a % b := by
  have h1 := fdv_fmd a b
  have h2 := Int.mul_ediv_add_emod a b
  rw [fdv_floor a b h, Int.mul_comm] at h1
  omega
theorem div_is {n k q : Int} (h0 : -9223372036854775808 ≤ n) (h1 : n ≤ 9223372036854775807) (k0 : 0 < k) (hq : n / k = q) (w : World) :
    Calls Tryz.prog 108 #[.int .i64 n, .int .i64 k] w fun e w' => e = .returned (.tuple #[.int .i64 q, .int .i64 0]) ∧ w = w' := by
  have h := div_any n k w h0 h1 (by omega) (by omega)
  rw [fdv_floor n k k0, hq] at h
  exact h
theorem mod_is {n k q : Int} (h0 : -9223372036854775808 ≤ n) (h1 : n ≤ 9223372036854775807) (k0 : 0 < k) (k1 : k ≤ 9223372036854775807) (hq : n % k = q) (w : World) :
    Calls Tryz.prog 42 #[.int .i64 n, .int .i64 k] w fun e w' => e = .returned (.tuple #[.int .i64 q, .int .i64 0]) ∧ w = w' := by
  have h := mod_any n k w h0 h1 (by omega) k1 (by omega)
  rw [fmd_mod n k k0, hq] at h
  exact h
theorem divide_is {n k q r : Int} (h0 : -9223372036854775808 ≤ n) (h1 : n ≤ 9223372036854775807) (k0 : 0 < k) (k1 : k ≤ 9223372036854775807) (hq : n / k = q) (hr : n % k = r) (w : World) :
    Calls Tryz.prog 86 #[.int .i64 n, .int .i64 k] w fun e w' => e = .returned (.tuple #[.int .i64 q, .int .i64 r]) ∧ w = w' := by
  have HD := Kp.mk (fun w => div_is h0 h1 k0 hq w)
  have HM := Kp.mk (fun w => mod_is h0 h1 k0 k1 hr w)
  clear h0 h1 k0 k1 hq hr
  go_enter Tryz.func86, Tryz.ntmps86
  go_wp2_with fail
  refine (HD.out _).mono ?_
  rintro e w' ⟨rfl, rfl⟩
  go_wp2_with fail
  refine (HM.out _).mono ?_
  rintro e w' ⟨rfl, rfl⟩
  go_wp2_with fail
  go_ret2
  exact ⟨rfl, rfl⟩

/-- the leap years behind the year 0 up to y -/
def qs (y : Int) : Int := y / 4 - y / 100 + y / 400
theorem qs_Lp (y : Int) : Lp (y + 1) = qs y + 1 := by unfold Lp qs; omega
theorem qs_neg : qs (-1) = -1 := by decide
theorem idx0 (w : World) : (Instr.index 141 (.agg #[.int .i64 4, .int .i64 1, .int .i64 100, .int .i64 (-1), .int .i64 400, .int .i64 1]) (.int .i64 0)).run Tryz.prog w = .ok (.agg #[.int .i64 4, .int .i64 1]) w := by
  simp [Instr.index, run_underlying Tryz.underlying141, asIntOf, go_sem]
theorem idx1 (w : World) : (Instr.index 141 (.agg #[.int .i64 4, .int .i64 1, .int .i64 100, .int .i64 (-1), .int .i64 400, .int .i64 1]) (.int .i64 1)).run Tryz.prog w = .ok (.agg #[.int .i64 100, .int .i64 (-1)]) w := by
  simp [Instr.index, run_underlying Tryz.underlying141, asIntOf, go_sem]
theorem idx2 (w : World) : (Instr.index 141 (.agg #[.int .i64 4, .int .i64 1, .int .i64 100, .int .i64 (-1), .int .i64 400, .int .i64 1]) (.int .i64 2)).run Tryz.prog w = .ok (.agg #[.int .i64 400, .int .i64 1]) w := by
  simp [Instr.index, run_underlying Tryz.underlying141, asIntOf, go_sem]
set_option maxHeartbeats 2000000 in
theorem leapsTo_is {y v : Int} (h0 : -9223372036854775808 ≤ y) (h1 : y ≤ 9223372036854775807) (hv : qs y = v) (w : World) (hL : Laid w) :
    Calls Tryz.prog 84 #[.int .i64 y] w fun e w' => e = .returned (.int .i64 v) ∧ Below w.heap.size w w' := by
  obtain ⟨a, ha⟩ : ∃ a, y / 4 = a := ⟨_, rfl⟩
  obtain ⟨b, hb⟩ : ∃ b, y / 100 = b := ⟨_, rfl⟩
  obtain ⟨c, hc⟩ : ∃ c, y / 400 = c := ⟨_, rfl⟩
  have hv2 : a - b + c = v := by rw [← hv, ← ha, ← hb, ← hc]; rfl
  have d1 := Kp.mk (fun w => divide_is (k := 4) h0 h1 (by omega) (by omega) ha rfl w)
  have d2 := Kp.mk (fun w => divide_is (k := 100) h0 h1 (by omega) (by omega) hb rfl w)
  have d3 := Kp.mk (fun w => divide_is (k := 400) h0 h1 (by omega) (by omega) hc rfl w)
  have w1 : IntKind.i64.wrap a = a := IntWalk.i64_in _ (by omega)
  have w2 : IntKind.i64.wrap (-b) = -b := IntWalk.i64_in _ (by omega)
  have w3 : IntKind.i64.wrap c = c := IntWalk.i64_in _ (by omega)
  have w4 : IntKind.i64.wrap (a + -b) = a - b := by rw [show a + -b = a - b by omega]; exact IntWalk.i64_in _ (by omega)
  have w5 : IntKind.i64.wrap (a - b + c) = v := by rw [← hv2]; exact IntWalk.i64_in _ (by omega)
  have w6 : IntKind.i64.wrap v = v := IntWalk.i64_in _ (by omega)
  generalize y % 4 = m1 at d1
  generalize y % 100 = m2 at d2
  generalize y % 400 = m3 at d3
  have c0 := hL.r0
  have c1 := hL.r1
  have c2 := hL.r2
  have c3 := hL.r3
  have c4 := hL.r4
  have c5 := hL.r5
  have HB := Kp.mk (Below.refl w.heap.size w)
  clear h0 h1 ha hb hc hv hL
  go_enter Tryz.func84, Tryz.ntmps84
  go_wp2_with fail
  go_loopw [3, 9] (fun s i wr => ∃ k : Nat, k ≤ 3 ∧ i = .int .i64 k ∧ s = .int .i64 (if k = 0 then 0 else if k = 1 then a else if k = 2 then a - b else v) ∧ Kp (Below w.heap.size w wr)) (fun _ i _ => 3 - (intOf i).toNat)
  case atStart => exact ⟨0, by omega, rfl, rfl, HB⟩
  case round =>
    obtain ⟨k, hk, rfl, rfl, HB⟩ := hrel
    rcases (show k = 0 ∨ k = 1 ∨ k = 2 ∨ k = 3 by omega) with rfl | rfl | rfl | rfl
    · clear c0 c1 c2 c3 c4 c5
      have hX := idx0
      go_wp2_with fail
      refine (d1.out _).mono ?_
      rintro e w' ⟨rfl, rfl⟩
      go_wp2_with fail
      exact ⟨⟨1, by omega, rfl, rfl, Kp.mk (HB.out.alloc HB.out.size _)⟩, by simp [intOf]⟩
    · clear c0 c1 c2 c3 c4 c5
      have hX := idx1
      go_wp2_with fail
      refine (d2.out _).mono ?_
      rintro e w' ⟨rfl, rfl⟩
      go_wp2_with fail
      exact ⟨⟨2, by omega, rfl, rfl, Kp.mk (HB.out.alloc HB.out.size _)⟩, by simp [intOf]⟩
    · clear c0 c1 c2 c3 c4 c5
      have hX := idx2
      go_wp2_with fail
      refine (d3.out _).mono ?_
      rintro e w' ⟨rfl, rfl⟩
      go_wp2_with fail
      exact ⟨⟨3, by omega, rfl, rfl, Kp.mk (HB.out.alloc HB.out.size _)⟩, by simp [intOf]⟩
    · go_wp2_with fail
      go_ret
      exact ⟨rfl, HB.out⟩
theorem Sd_qs (y : Int) : Sd y = 365 * y + qs (y - 1) + 1 := by
  have h := qs_Lp (y - 1)
  rw [show y - 1 + 1 = y by omega] at h
  unfold Sd; omega
theorem qs_bound {y : Int} (h0 : -20000000000000000 ≤ y) (h1 : y ≤ 20000000000000000) : -20000000000000000 ≤ qs y ∧ qs y ≤ 20000000000000000 := by unfold qs; omega
set_option maxHeartbeats 1000000 in
theorem start_is {y v : Int} (h0 : -20000000000000000 + 1 ≤ y) (h1 : y ≤ 20000000000000000) (hv : Sd y = v) (w : World) (hL : Laid w) :
    Calls Tryz.prog 65 #[.int .i64 y] w fun e w' => e = .returned (.int .i64 v) ∧ Below w.heap.size w w' := by
  rw [Sd_qs] at hv
  have hqb := qs_bound (y := y - 1) (by omega) (by omega)
  obtain ⟨x, hx⟩ : ∃ x, qs (y - 1) = x := ⟨_, rfl⟩
  rw [hx] at hv hqb
  have d1 := Kp.mk (fun w => leapsTo_is (y := y - 1) (by omega) (by omega) hx w)
  have d2 := Kp.mk (fun w => leapsTo_is (y := -1) (by omega) (by omega) qs_neg w)
  have w1 : IntKind.i64.wrap (365 * y) = 365 * y := IntWalk.i64_in _ (by omega)
  have w2 : IntKind.i64.wrap (y - 1) = y - 1 := IntWalk.i64_in _ (by omega)
  have w3 : IntKind.i64.wrap (365 * y + x) = 365 * y + x := IntWalk.i64_in _ (by omega)
  have w4 : IntKind.i64.wrap (365 * y + x + 1) = v := by rw [hv]; exact IntWalk.i64_in _ (by omega)
  have w5 : IntKind.i64.wrap (365 * y + x - -1) = v := by rw [show 365 * y + x - -1 = 365 * y + x + 1 by omega]; exact w4
  have HL := Kp.mk hL
  clear h0 h1 hv hqb hx hL
  go_enter Tryz.func65, Tryz.ntmps65
  go_wp2_with fail
  refine (d1.out _ HL.out).mono ?_
  rintro e w' ⟨rfl, hb⟩
  have HB := Kp.mk hb
  clear hb
  go_wp2_with fail
  refine (d2.out _ (HL.out.below HB.out)).mono ?_
  rintro e w' ⟨rfl, hb⟩
  have HB := Kp.mk (HB.out.trans (hb.mono HB.out.size))
  clear hb
  go_wp2_with fail
  go_ret
  exact ⟨rfl, HB.out⟩
theorem check_in {y : Int} (hy : isY y = true) (w : World) : Calls Tryz.prog 64 #[.int .i64 y] w fun e w' => e = .returned (.int .i64 0) ∧ w = w' := by
  obtain ⟨h1, h2⟩ := (isY_iff y).1 hy
  clear hy
  go_enter Tryz.func64, Tryz.ntmps64
  go_wp2_with fail
  go_ret
  exact ⟨rfl, rfl⟩
theorem check_out {y : Int} (hy : isY y = false) (w : World) : Calls Tryz.prog 64 #[.int .i64 y] w fun e w' => e = .returned (.int .i64 6) ∧ w = w' := by
  have h : ¬ (-10000000000000000 ≤ y ∧ y ≤ 10000000000000000) := fun g => by rw [(isY_iff y).2 g] at hy; cases hy
  clear hy
  by_cases h1 : -10000000000000000 ≤ y
  · have h2 : ¬ y ≤ 10000000000000000 := fun g => h ⟨h1, g⟩
    clear h
    go_enter Tryz.func64, Tryz.ntmps64
    go_wp2_with fail
    go_ret
    exact ⟨rfl, rfl⟩
  · clear h
    go_enter Tryz.func64, Tryz.ntmps64
    go_wp2_with fail
    go_ret
    exact ⟨rfl, rfl⟩
end Go.Proofs.YtoafigehcgledaaGreatDoor
namespace Go.Proofs.YtoafigehcgledaaGreatDoor
open Go.RowKit
set_option maxRecDepth 100000

structure Box (b : Nat) (n : Int) (w : World) : Prop where
  laid : Laid w
  size : b < w.heap.size
  cell : w.cell? ⟨b, 0, none⟩ = some (.int .i64 n)
theorem Box.below {b : Nat} {n : Int} {w w' : World} (h : Box b n w) (hb : Below w.heap.size w w') : Box b n w' :=
  ⟨h.laid.below hb, by have := hb.size; have := h.size; omega, by rw [hb.cell (p := ⟨b, 0, none⟩) h.size]; exact h.cell⟩
theorem Box.drew {b : Nat} {n : Int} {w : World} (h : Box b n w) : Box b n w.drew :=
  ⟨⟨h.laid.size, h.laid.r0, h.laid.r1, h.laid.r2, h.laid.r3, h.laid.r4, h.laid.r5⟩, h.size, h.cell⟩
theorem drew_below (w : World) : Below w.heap.size w w.drew := ⟨rfl, rfl, rfl, Nat.le_refl _, fun _ _ => rfl⟩
/-- the closure: whether the day lies ahead of the next year's first day -/
theorem later_is {b i r : Nat} {n : Int} (hi : i < 400) (hs : decide (n < Sd (i + 1)) = decide (r ≤ i)) (w : World) (hB : Box b n w) :
    Calls Tryz.prog 88 #[.int .i64 i, .pointer (some ⟨b, 0, none⟩)] w fun e w' => e = .returned (.bool (decide (r ≤ i))) ∧ Below w.heap.size w w' := by
  have c := hB.cell
  have hd := Kp.mk hB.drew
  have w1 : IntKind.i64.wrap ((i : Int) + 1) = (i : Int) + 1 := IntWalk.i64_in _ (by omega)
  obtain ⟨s, hs2⟩ : ∃ s, Sd (i + 1) = s := ⟨_, rfl⟩
  rw [hs2] at hs
  have r1 := Kp.mk (fun w => start_is (y := (i : Int) + 1) (by omega) (by omega) hs2 w)
  have HS := Kp.mk hs
  clear hs hs2
  go_enter Tryz.func88, Tryz.ntmps88
  go_wp2_with fail
  go_region_held3 (fun w' => w'.cell? ⟨b, 0, none⟩ = some (.int .i64 n)) (first | go_keep | exact kc) (first | (refine (r1.out _ hd.out.laid).mono ?_; rintro e w' ⟨rfl, hb⟩; have kb := Kp.mk hb; have kc := (hd.out.below hb).cell; clear hb))
  go_wp2_with fail
  go_ret
  exact ⟨by rw [HS.out]; rfl, (drew_below w).trans kb.out⟩
set_option maxHeartbeats 2000000 in
/-- sort.Search with that closure -/
theorem search_is {b r : Nat} {n : Int} (hr : r < 400) (hs : ∀ i : Nat, i < 400 → decide (n < Sd (i + 1)) = decide (r ≤ i)) (w : World) (hB : Box b n w) :
    Calls Tryz.prog 87 #[.int .i64 400, .func (.func 88) #[] #[.pointer (some ⟨b, 0, none⟩)]] w fun e w' => e = .returned (.int .i64 r) ∧ Below w.heap.size w w' := by
  have HC := Kp.mk (fun (i : Nat) (hi : i < 400) (v : World) (h : Below w.heap.size w v) => later_is hi (hs i hi) v (hB.below h))
  have HB := Kp.mk (Below.refl w.heap.size w)
  clear hs hB
  go_enter Tryz.func87, Tryz.ntmps87
  go_wp2_with fail
  go_loopw [5, 6] (fun x y wr => ∃ lo hi : Nat, x = .int .i64 lo ∧ y = .int .i64 hi ∧ lo ≤ r ∧ r ≤ hi ∧ hi ≤ 400 ∧ Kp (Below w.heap.size w wr)) (fun x y _ => (intOf y - intOf x).toNat)
  case atStart => exact ⟨0, 400, rfl, rfl, by omega, by omega, by omega, HB⟩
  case round =>
    obtain ⟨lo, hi, rfl, rfl, h1, h2, h3, HB⟩ := hrel
    by_cases hlt : lo < hi
    · have hc := HC.out ((lo + hi) / 2) (by omega) wr HB.out
      rw [show (((lo + hi) / 2 : Nat) : Int) = ((lo : Int) + (hi : Int)) / 2 by omega] at hc
      by_cases hp : r ≤ (lo + hi) / 2
      · rw [decide_eq_true hp] at hc
        go_wp2_with fail
        refine hc.mono ?_
        rintro e w' ⟨rfl, hb⟩
        have HB := Kp.mk (HB.out.trans (hb.mono HB.out.size))
        clear hb hc
        go_wp2_with fail
        go_roundw
        case rel => exact ⟨lo, (lo + hi) / 2, rfl, by rw [show ((lo : Int) + (hi : Int)) / 2 = (((lo + hi) / 2 : Nat) : Int) by omega], by omega, by omega, by omega, HB⟩
        case measure => simp [intOf]; omega
      · rw [decide_eq_false hp] at hc
        go_wp2_with fail
        refine hc.mono ?_
        rintro e w' ⟨rfl, hb⟩
        have HB := Kp.mk (HB.out.trans (hb.mono HB.out.size))
        clear hb hc
        go_wp2_with fail
        go_roundw
        case rel => exact ⟨(lo + hi) / 2 + 1, hi, by rw [show ((lo : Int) + (hi : Int)) / 2 + 1 = (((lo + hi) / 2 + 1 : Nat) : Int) by omega], rfl, by omega, by omega, by omega, HB⟩
        case measure => simp [intOf]; omega
    · obtain rfl : lo = r := by omega
      obtain rfl : hi = lo := by omega
      go_wp2_with fail
      go_ret
      exact ⟨rfl, HB.out⟩
/-- where a day lies within its turn of 400 years -/
theorem in_turn {y d : Int} (h : YearHas y d) : 0 ≤ y - 400 * (d / 146097) ∧ y - 400 * (d / 146097) < 400 ∧ Sd (y - 400 * (d / 146097)) ≤ d % 146097 ∧ d % 146097 < Sd (y - 400 * (d / 146097) + 1) := by
  obtain ⟨h1, h2⟩ := h
  obtain ⟨q, hq⟩ : ∃ q, d / 146097 = q := ⟨_, rfl⟩
  have hr : d = 146097 * q + d % 146097 := by omega
  have hr2 : 0 ≤ d % 146097 ∧ d % 146097 < 146097 := by omega
  rw [hq]
  generalize d % 146097 = m at *
  obtain ⟨z, hz⟩ : ∃ z, y - 400 * q = z := ⟨_, rfl⟩
  have hy : y = 400 * q + z := by omega
  rw [hy, Sd_400] at h1
  rw [hy, show 400 * q + z + 1 = 400 * q + (z + 1) by omega, Sd_400] at h2
  rw [hz]
  have h0 : Sd 0 = 0 ∧ Sd 400 = 146097 := by decide
  refine ⟨?_, ?_, by omega, by omega⟩
  · by_cases e : 0 ≤ z
    · exact e
    · have := Sd_le (show z + 1 ≤ 0 by omega); omega
  · by_cases e : z < 400
    · exact e
    · have := Sd_le (show 400 ≤ z by omega); omega
theorem later_r {n : Int} {r : Nat} (h1 : Sd r ≤ n) (h2 : n < Sd (r + 1)) (i : Nat) : decide (n < Sd (i + 1)) = decide (r ≤ i) := by
  by_cases e : r ≤ i
  · rw [decide_eq_true e]
    have := Sd_le (show (r : Int) + 1 ≤ (i : Int) + 1 by omega)
    exact decide_eq_true (by omega)
  · rw [decide_eq_false e]
    have := Sd_le (show (i : Int) + 1 ≤ (r : Int) by omega)
    exact decide_eq_false (by omega)
set_option maxHeartbeats 1000000 in
theorem of_in {d y : Int} (h0 : -9223372036854775808 ≤ d) (h1 : d ≤ 9223372036854775807) (hd : YearHas y d) (hy : isY y = true) (w : World) (hL : Laid w) :
    Calls Tryz.prog 67 #[.int .i64 d] w fun e w' => e = .returned (.tuple #[.int .i64 y, .int .i64 0]) ∧ Below w.heap.size w w' := by
  obtain ⟨k1, k2, k3, k4⟩ := in_turn hd
  obtain ⟨q, hq⟩ : ∃ q, d / 146097 = q := ⟨_, rfl⟩
  obtain ⟨m, hm⟩ : ∃ m, d % 146097 = m := ⟨_, rfl⟩
  rw [hq] at k1 k2 k3 k4
  rw [hm] at k3 k4
  obtain ⟨r, hr⟩ : ∃ r : Nat, (r : Int) = y - 400 * q := ⟨(y - 400 * q).toNat, by omega⟩
  rw [← hr] at k1 k2 k3 k4
  have hyy := (isY_iff y).1 hy
  have w1 : IntKind.i64.wrap (q * 400) = q * 400 := IntWalk.i64_in _ (by omega)
  have w2 : IntKind.i64.wrap (q * 400 + (r : Int)) = y := by rw [show q * 400 + (r : Int) = y by omega]; exact IntWalk.i64_in _ (by omega)
  have r1 := Kp.mk (fun w => divide_is (k := 146097) h0 h1 (by omega) (by omega) hq hm w)
  have HX := Kp.mk (fun (W : World) (hB : Below w.heap.size w W) => search_is (b := W.heap.size) (r := r) (n := m) (by omega) (fun i _ => later_r k3 k4 i) (W.alloc (.cells #[.int .i64 m] 2))
    ⟨hL.below (hB.alloc hB.size _), by simp, by rw [World.cell?_alloc_new]; rfl⟩)
  have r3 := Kp.mk (fun w => check_in hy w)
  clear h0 h1 hd hy k1 k2 k3 k4 hq hm hr hyy hL
  go_enter Tryz.func67, Tryz.ntmps67
  go_wp2_with fail
  refine (r1.out _).mono ?_
  rintro e w' ⟨rfl, rfl⟩
  go_wp2_with fail
  refine (HX.out _ (Below.refl _ _)).mono ?_
  rintro e w' ⟨rfl, hb⟩
  have HB := Kp.mk (((Below.refl w.heap.size w).alloc (Nat.le_refl _) _).trans (hb.mono (by simp)))
  clear hb
  go_wp2_with fail
  refine (r3.out _).mono ?_
  rintro e w' ⟨rfl, rfl⟩
  go_wp2_with fail
  go_ret2
  exact ⟨rfl, HB.out⟩
set_option maxHeartbeats 1000000 in
theorem of_out {d y : Int} (h0 : -9223372036854775808 ≤ d) (h1 : d ≤ 9223372036854775807) (hd : YearHas y d) (hy : isY y = false) (w : World) (hL : Laid w) :
    Calls Tryz.prog 67 #[.int .i64 d] w fun e w' => e = .returned (.tuple #[.int .i64 0, .int .i64 6]) ∧ Below w.heap.size w w' := by
  obtain ⟨k1, k2, k3, k4⟩ := in_turn hd
  obtain ⟨q, hq⟩ : ∃ q, d / 146097 = q := ⟨_, rfl⟩
  obtain ⟨m, hm⟩ : ∃ m, d % 146097 = m := ⟨_, rfl⟩
  rw [hq] at k1 k2 k3 k4
  rw [hm] at k3 k4
  obtain ⟨r, hr⟩ : ∃ r : Nat, (r : Int) = y - 400 * q := ⟨(y - 400 * q).toNat, by omega⟩
  rw [← hr] at k1 k2 k3 k4
  have w1 : IntKind.i64.wrap (q * 400) = q * 400 := IntWalk.i64_in _ (by omega)
  have w2 : IntKind.i64.wrap (q * 400 + (r : Int)) = y := by rw [show q * 400 + (r : Int) = y by omega]; exact IntWalk.i64_in _ (by omega)
  have r1 := Kp.mk (fun w => divide_is (k := 146097) h0 h1 (by omega) (by omega) hq hm w)
  have HX := Kp.mk (fun (W : World) (hB : Below w.heap.size w W) => search_is (b := W.heap.size) (r := r) (n := m) (by omega) (fun i _ => later_r k3 k4 i) (W.alloc (.cells #[.int .i64 m] 2))
    ⟨hL.below (hB.alloc hB.size _), by simp, by rw [World.cell?_alloc_new]; rfl⟩)
  have r3 := Kp.mk (fun w => check_out hy w)
  clear h0 h1 hd hy k1 k2 k3 k4 hq hm hr hL
  go_enter Tryz.func67, Tryz.ntmps67
  go_wp2_with fail
  refine (r1.out _).mono ?_
  rintro e w' ⟨rfl, rfl⟩
  go_wp2_with fail
  refine (HX.out _ (Below.refl _ _)).mono ?_
  rintro e w' ⟨rfl, hb⟩
  have HB := Kp.mk (((Below.refl w.heap.size w).alloc (Nat.le_refl _) _).trans (hb.mono (by simp)))
  clear hb
  go_wp2_with fail
  refine (r3.out _).mono ?_
  rintro e w' ⟨rfl, rfl⟩
  go_wp2_with fail
  go_ret2
  exact ⟨rfl, HB.out⟩
end Go.Proofs.YtoafigehcgledaaGreatDoor
namespace Go.Proofs.YtoafigehcgledaaGreatDoor
open Go.RowKit
set_option maxRecDepth 100000

theorem start_out {y : Int} (hy : isY y = false) (w : World) : Calls Tryz.prog 37 #[.int .i64 y] w fun e w' => e = .returned (.tuple #[.int .i64 0, .int .i64 6]) ∧ w = w' := by
  have r1 := Kp.mk (fun w => check_out hy w)
  clear hy
  go_enter Tryz.func37, Tryz.ntmps37
  go_wp2_with fail
  refine (r1.out _).mono ?_
  rintro e w' ⟨rfl, rfl⟩
  go_wp2_with fail
  go_ret2
  exact ⟨rfl, rfl⟩
theorem start_pub {y v : Int} (hy : isY y = true) (hv : Sd y = v) (w : World) (hL : Laid w) :
    Calls Tryz.prog 37 #[.int .i64 y] w fun e w' => e = .returned (.tuple #[.int .i64 v, .int .i64 0]) ∧ Below w.heap.size w w' := by
  have hyy := (isY_iff y).1 hy
  have r1 := Kp.mk (fun w => check_in hy w)
  have r2 := Kp.mk (fun w => start_is (y := y) (by omega) (by omega) hv w)
  have HL := Kp.mk hL
  clear hy hyy hv hL
  go_enter Tryz.func37, Tryz.ntmps37
  go_wp2_with fail
  refine (r1.out _).mono ?_
  rintro e w' ⟨rfl, rfl⟩
  go_wp2_with fail
  refine (r2.out _ (HL.out)).mono ?_
  rintro e w' ⟨rfl, hb⟩
  have HB := Kp.mk hb
  clear hb
  go_wp2_with fail
  go_ret2
  exact ⟨rfl, HB.out⟩
theorem leaps_in {a b v : Int} (ha : isY a = true) (hb : isY b = true) (hv : (if b < a then 0 else Lp (b + 1) - Lp a) = v) (w : World) (hL : Laid w) :
    Calls Tryz.prog 107 #[.int .i64 a, .int .i64 b] w fun e w' => e = .returned (.tuple #[.int .i64 v, .int .i64 0]) ∧ Below w.heap.size w w' := by
  have haa := (isY_iff a).1 ha
  have hbb := (isY_iff b).1 hb
  have r1 := Kp.mk (fun w => check_in ha w)
  have r2 := Kp.mk (fun w => check_in hb w)
  by_cases h : b < a
  · rw [if_pos h] at hv
    subst hv
    clear ha hb haa hbb hL
    go_enter Tryz.func107, Tryz.ntmps107
    go_wp2_with fail
    refine (r1.out _).mono ?_
    rintro e w' ⟨rfl, rfl⟩
    go_wp2_with fail
    refine (r2.out _).mono ?_
    rintro e w' ⟨rfl, rfl⟩
    go_wp2_with fail
    go_ret2
    exact ⟨rfl, Below.refl _ _⟩
  · rw [if_neg h] at hv
    obtain ⟨s, hs⟩ : ∃ s, qs b = s := ⟨_, rfl⟩
    obtain ⟨t, ht⟩ : ∃ t, qs (a - 1) = t := ⟨_, rfl⟩
    have hq1 := qs_Lp b
    have hq2 := qs_Lp (a - 1)
    rw [show a - 1 + 1 = a by omega] at hq2
    rw [hs] at hq1
    rw [ht] at hq2
    have hb1 := qs_bound (y := b) (by omega) (by omega)
    have hb2 := qs_bound (y := a - 1) (by omega) (by omega)
    rw [hs] at hb1
    rw [ht] at hb2
    have w1 : IntKind.i64.wrap (a - 1) = a - 1 := IntWalk.i64_in _ (by omega)
    have w2 : IntKind.i64.wrap (s - t) = v := by rw [show s - t = v by omega]; exact IntWalk.i64_in _ (by omega)
    have r3 := Kp.mk (fun w => leapsTo_is (y := b) (by omega) (by omega) hs w)
    have r4 := Kp.mk (fun w => leapsTo_is (y := a - 1) (by omega) (by omega) ht w)
    have HL := Kp.mk hL
    clear ha hb haa hbb hL hv hs ht hq1 hq2 hb1 hb2
    go_enter Tryz.func107, Tryz.ntmps107
    go_wp2_with fail
    refine (r1.out _).mono ?_
    rintro e w' ⟨rfl, rfl⟩
    go_wp2_with fail
    refine (r2.out _).mono ?_
    rintro e w' ⟨rfl, rfl⟩
    go_wp2_with fail
    refine (r3.out _ (HL.out)).mono ?_
    rintro e w' ⟨rfl, hb⟩
    have HB := Kp.mk hb
    clear hb
    go_wp2_with fail
    refine (r4.out _ (HL.out.below HB.out)).mono ?_
    rintro e w' ⟨rfl, hb⟩
    have HB := Kp.mk (HB.out.trans (hb.mono HB.out.size))
    clear hb
    go_wp2_with fail
    go_ret2
    exact ⟨rfl, HB.out⟩
theorem leaps_out {a b : Int} (h : isY a = false ∨ isY a = true ∧ isY b = false) (w : World) :
    Calls Tryz.prog 107 #[.int .i64 a, .int .i64 b] w fun e w' => e = .returned (.tuple #[.int .i64 0, .int .i64 6]) ∧ w = w' := by
  rcases h with ha | ⟨ha, hb⟩
  · have r1 := Kp.mk (fun w => check_out ha w)
    clear ha
    go_enter Tryz.func107, Tryz.ntmps107
    go_wp2_with fail
    refine (r1.out _).mono ?_
    rintro e w' ⟨rfl, rfl⟩
    go_wp2_with fail
    go_ret2
    exact ⟨rfl, rfl⟩
  · have r1 := Kp.mk (fun w => check_in ha w)
    have r2 := Kp.mk (fun w => check_out hb w)
    clear ha hb
    go_enter Tryz.func107, Tryz.ntmps107
    go_wp2_with fail
    refine (r1.out _).mono ?_
    rintro e w' ⟨rfl, rfl⟩
    go_wp2_with fail
    refine (r2.out _).mono ?_
    rintro e w' ⟨rfl, rfl⟩
    go_wp2_with fail
    go_ret2
    exact ⟨rfl, rfl⟩
theorem leap_in {y : Int} {b : Bool} (hy : isY y = true) (hb : leapB y = b) (w : World) (hL : Laid w) :
    Calls Tryz.prog 85 #[.int .i64 y] w fun e w' => e = .returned (.tuple #[.bool b, .int .i64 0]) ∧ Below w.heap.size w w' := by
  have hv : (if y < y then 0 else Lp (y + 1) - Lp y) = (if b then 1 else 0) := by
    rw [if_neg (by omega), Lp_succ, hb]; split <;> omega
  have r1 := Kp.mk (fun w => leaps_in hy hy hv w)
  have HL := Kp.mk hL
  clear hy hb hv hL
  cases b
  · go_enter Tryz.func85, Tryz.ntmps85
    go_wp2_with fail
    refine (r1.out _ (HL.out)).mono ?_
    rintro e w' ⟨rfl, hb⟩
    have HB := Kp.mk hb
    clear hb
    go_wp2_with fail
    go_ret2
    exact ⟨rfl, HB.out⟩
  · go_enter Tryz.func85, Tryz.ntmps85
    go_wp2_with fail
    refine (r1.out _ (HL.out)).mono ?_
    rintro e w' ⟨rfl, hb⟩
    have HB := Kp.mk hb
    clear hb
    go_wp2_with fail
    go_ret2
    exact ⟨rfl, HB.out⟩
theorem leap_out {y : Int} (hy : isY y = false) (w : World) :
    Calls Tryz.prog 85 #[.int .i64 y] w fun e w' => e = .returned (.tuple #[.bool false, .int .i64 6]) ∧ w = w' := by
  have r1 := Kp.mk (fun w => leaps_out (a := y) (b := y) (.inl hy) w)
  clear hy
  go_enter Tryz.func85, Tryz.ntmps85
  go_wp2_with fail
  refine (r1.out _).mono ?_
  rintro e w' ⟨rfl, rfl⟩
  go_wp2_with fail
  go_ret2
  exact ⟨rfl, rfl⟩
theorem same_below {f : Nat} {args : Array Value} {w : World} {x : Ending} (h : Calls Tryz.prog f args w fun e w' => e = x ∧ w = w') : Calls Tryz.prog f args w fun e w' => e = x ∧ Below w.heap.size w w' :=
  h.mono fun _ _ ⟨a, b⟩ => ⟨a, b ▸ Below.refl _ _⟩
end Go.Proofs.YtoafigehcgledaaGreatDoor
namespace Go.Proofs.YtoafigehcgledaaGreatDoor
open Go.RowKit
set_option maxRecDepth 100000

/-- Start, Len, End of what is no year -/
theorem len_out {y : Int} (hy : isY y = false) (w : World) : Calls Tryz.prog 41 #[.int .i64 y] w fun e w' => e = .returned (.tuple #[.int .i64 0, .int .i64 6]) ∧ w = w' := by
  have r1 := Kp.mk (fun w => check_out hy w)
  clear hy
  go_enter Tryz.func41, Tryz.ntmps41
  go_wp2_with fail
  refine (r1.out _).mono ?_
  rintro e w' ⟨rfl, rfl⟩
  go_wp2_with fail
  go_ret2
  exact ⟨rfl, rfl⟩
theorem len_pub {y v : Int} (hy : isY y = true) (hv : lenI y = v) (w : World) (hL : Laid w) :
    Calls Tryz.prog 41 #[.int .i64 y] w fun e w' => e = .returned (.tuple #[.int .i64 v, .int .i64 0]) ∧ Below w.heap.size w w' := by
  have hyy := (isY_iff y).1 hy
  obtain ⟨s, hs⟩ : ∃ s, Sd (y + 1) = s := ⟨_, rfl⟩
  obtain ⟨t, ht⟩ : ∃ t, Sd y = t := ⟨_, rfl⟩
  have hsu := Sd_succ y
  have htwo := lenI_two y
  rw [hs, ht, hv] at hsu
  rw [hv] at htwo
  have w1 : IntKind.i64.wrap (y + 1) = y + 1 := IntWalk.i64_in _ (by omega)
  have w2 : IntKind.i64.wrap (s - t) = v := by rw [show s - t = v by omega]; exact IntWalk.i64_in _ (by omega)
  have r1 := Kp.mk (fun w => check_in hy w)
  have r2 := Kp.mk (fun w => start_is (y := y + 1) (by omega) (by omega) hs w)
  have r3 := Kp.mk (fun w => start_is (y := y) (by omega) (by omega) ht w)
  have HL := Kp.mk hL
  clear hy hyy hv hL hs ht hsu htwo
  go_enter Tryz.func41, Tryz.ntmps41
  go_wp2_with fail
  refine (r1.out _).mono ?_
  rintro e w' ⟨rfl, rfl⟩
  go_wp2_with fail
  refine (r2.out _ (HL.out)).mono ?_
  rintro e w' ⟨rfl, hb⟩
  have HB := Kp.mk hb
  clear hb
  go_wp2_with fail
  refine (r3.out _ (HL.out.below HB.out)).mono ?_
  rintro e w' ⟨rfl, hb⟩
  have HB := Kp.mk (HB.out.trans (hb.mono HB.out.size))
  clear hb
  go_wp2_with fail
  go_ret2
  exact ⟨rfl, HB.out⟩
end Go.Proofs.YtoafigehcgledaaGreatDoor
