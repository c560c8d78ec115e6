/-
  DERIVED. CONTRACTS of package years: Start, Leaps, Leap.
-/
import Derived.Test.YtnmpejhljdkkgaaDoorYrOf
namespace Go.Proofs.YtnmpejhljdkkgaaDoor
open Go.RowKit
set_option maxRecDepth 100000

theorem start_out {y : Int} (hy : isY y = false) (w : World) : Calls Tryd.prog 43 #[.int .i64 y] w fun e w' => e = .returned (.tuple #[.int .i64 0, .int .i64 6]) ∧ w = w' := by
  have r1 := Kp.mk (fun w => check_out hy w)
  clear hy
  go_enter Tryd.func43, Tryd.ntmps43
  go_wp2_with fail
  refine (r1.out _).mono ?_
  rintro e w' ⟨rfl, rfl⟩
  go_wp2_with fail
  go_ret2
  exact ⟨rfl, rfl⟩
theorem start_pub {y v : Int} (hy : isY y = true) (hv : Sd y = v) (w : World) (hL : Laid w) :
    Calls Tryd.prog 43 #[.int .i64 y] w fun e w' => e = .returned (.tuple #[.int .i64 v, .int .i64 0]) ∧ Below w.heap.size w w' := by
  have hyy := (isY_iff y).1 hy
  have r1 := Kp.mk (fun w => check_in hy w)
  have r2 := Kp.mk (fun w => start_is (y := y) (by omega) (by omega) hv w)
  have HL := Kp.mk hL
  clear hy hyy hv hL
  go_enter Tryd.func43, Tryd.ntmps43
  go_wp2_with fail
  refine (r1.out _).mono ?_
  rintro e w' ⟨rfl, rfl⟩
  go_wp2_with fail
  refine (r2.out _ (HL.out)).mono ?_
  rintro e w' ⟨rfl, hb⟩
  have HB := Kp.mk hb
  clear hb
  go_wp2_with fail
  go_ret2
  exact ⟨rfl, HB.out⟩
theorem leaps_in {a b v : Int} (ha : isY a = true) (hb : isY b = true) (hv : (if b < a then 0 else Lp (b + 1) - Lp a) = v) (w : World) (hL : Laid w) :
    Calls Tryd.prog 51 #[.int .i64 a, .int .i64 b] w fun e w' => e = .returned (.tuple #[.int .i64 v, .int .i64 0]) ∧ Below w.heap.size w w' := by
  have haa := (isY_iff a).1 ha
  have hbb := (isY_iff b).1 hb
  have r1 := Kp.mk (fun w => check_in ha w)
  have r2 := Kp.mk (fun w => check_in hb w)
  by_cases h : b < a
  · rw [if_pos h] at hv
    subst hv
    clear ha hb haa hbb hL
    go_enter Tryd.func51, Tryd.ntmps51
    go_wp2_with fail
    refine (r1.out _).mono ?_
    rintro e w' ⟨rfl, rfl⟩
    go_wp2_with fail
    refine (r2.out _).mono ?_
    rintro e w' ⟨rfl, rfl⟩
    go_wp2_with fail
    go_ret2
    exact ⟨rfl, Below.refl _ _⟩
  · rw [if_neg h] at hv
    obtain ⟨s, hs⟩ : ∃ s, qs b = s := ⟨_, rfl⟩
    obtain ⟨t, ht⟩ : ∃ t, qs (a - 1) = t := ⟨_, rfl⟩
    have hq1 := qs_Lp b
    have hq2 := qs_Lp (a - 1)
    rw [show a - 1 + 1 = a by omega] at hq2
    rw [hs] at hq1
    rw [ht] at hq2
    have hb1 := qs_bound (y := b) (by omega) (by omega)
    have hb2 := qs_bound (y := a - 1) (by omega) (by omega)
    rw [hs] at hb1
    rw [ht] at hb2
    have w1 : IntKind.i64.wrap (a - 1) = a - 1 := IntWalk.i64_in _ (by omega)
    have w2 : IntKind.i64.wrap (s - t) = v := by rw [show s - t = v by omega]; exact IntWalk.i64_in _ (by omega)
    have r3 := Kp.mk (fun w => leapsTo_is (y := b) (by omega) (by omega) hs w)
    have r4 := Kp.mk (fun w => leapsTo_is (y := a - 1) (by omega) (by omega) ht w)
    have HL := Kp.mk hL
    clear ha hb haa hbb hL hv hs ht hq1 hq2 hb1 hb2
    go_enter Tryd.func51, Tryd.ntmps51
    go_wp2_with fail
    refine (r1.out _).mono ?_
    rintro e w' ⟨rfl, rfl⟩
    go_wp2_with fail
    refine (r2.out _).mono ?_
    rintro e w' ⟨rfl, rfl⟩
    go_wp2_with fail
    refine (r3.out _ (HL.out)).mono ?_
    rintro e w' ⟨rfl, hb⟩
    have HB := Kp.mk hb
    clear hb
    go_wp2_with fail
    refine (r4.out _ (HL.out.below HB.out)).mono ?_
    rintro e w' ⟨rfl, hb⟩
    have HB := Kp.mk (HB.out.trans (hb.mono HB.out.size))
    clear hb
    go_wp2_with fail
    go_ret2
    exact ⟨rfl, HB.out⟩
theorem leaps_out {a b : Int} (h : isY a = false ∨ isY a = true ∧ isY b = false) (w : World) :
    Calls Tryd.prog 51 #[.int .i64 a, .int .i64 b] w fun e w' => e = .returned (.tuple #[.int .i64 0, .int .i64 6]) ∧ w = w' := by
  rcases h with ha | ⟨ha, hb⟩
  · have r1 := Kp.mk (fun w => check_out ha w)
    clear ha
    go_enter Tryd.func51, Tryd.ntmps51
    go_wp2_with fail
    refine (r1.out _).mono ?_
    rintro e w' ⟨rfl, rfl⟩
    go_wp2_with fail
    go_ret2
    exact ⟨rfl, rfl⟩
  · have r1 := Kp.mk (fun w => check_in ha w)
    have r2 := Kp.mk (fun w => check_out hb w)
    clear ha hb
    go_enter Tryd.func51, Tryd.ntmps51
    go_wp2_with fail
    refine (r1.out _).mono ?_
    rintro e w' ⟨rfl, rfl⟩
    go_wp2_with fail
    refine (r2.out _).mono ?_
    rintro e w' ⟨rfl, rfl⟩
    go_wp2_with fail
    go_ret2
    exact ⟨rfl, rfl⟩
theorem leap_in {y : Int} {b : Bool} (hy : isY y = true) (hb : leapB y = b) (w : World) (hL : Laid w) :
    Calls Tryd.prog 49 #[.int .i64 y] w fun e w' => e = .returned (.tuple #[.bool b, .int .i64 0]) ∧ Below w.heap.size w w' := by
  have hv : (if y < y then 0 else Lp (y + 1) - Lp y) = (if b then 1 else 0) := by
    rw [if_neg (by omega), Lp_succ, hb]; split <;> omega
  have r1 := Kp.mk (fun w => leaps_in hy hy hv w)
  have HL := Kp.mk hL
  clear hy hb hv hL
  cases b
  · go_enter Tryd.func49, Tryd.ntmps49
    go_wp2_with fail
    refine (r1.out _ (HL.out)).mono ?_
    rintro e w' ⟨rfl, hb⟩
    have HB := Kp.mk hb
    clear hb
    go_wp2_with fail
    go_ret2
    exact ⟨rfl, HB.out⟩
  · go_enter Tryd.func49, Tryd.ntmps49
    go_wp2_with fail
    refine (r1.out _ (HL.out)).mono ?_
    rintro e w' ⟨rfl, hb⟩
    have HB := Kp.mk hb
    clear hb
    go_wp2_with fail
    go_ret2
    exact ⟨rfl, HB.out⟩
theorem leap_out {y : Int} (hy : isY y = false) (w : World) :
    Calls Tryd.prog 49 #[.int .i64 y] w fun e w' => e = .returned (.tuple #[.bool false, .int .i64 6]) ∧ w = w' := by
  have r1 := Kp.mk (fun w => leaps_out (a := y) (b := y) (.inl hy) w)
  clear hy
  go_enter Tryd.func49, Tryd.ntmps49
  go_wp2_with fail
  refine (r1.out _).mono ?_
  rintro e w' ⟨rfl, rfl⟩
  go_wp2_with fail
  go_ret2
  exact ⟨rfl, rfl⟩
theorem same_below {f : Nat} {args : Array Value} {w : World} {x : Ending} (h : Calls Tryd.prog f args w fun e w' => e = x ∧ w = w') : Calls Tryd.prog f args w fun e w' => e = x ∧ Below w.heap.size w w' :=
  h.mono fun _ _ ⟨a, b⟩ => ⟨a, b ▸ Below.refl _ _⟩
end Go.Proofs.YtnmpejhljdkkgaaDoor
