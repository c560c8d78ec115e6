/-
  DERIVED. WALKS of the laws of layer 4 (years), given the contracts of package years. Written by mkyears.py.
-/
import Derived.Test.YtdjcpobnbjeohaaDoorYrRef
namespace Go.Proofs.YtdjcpobnbjeohaaDoor
open Go.RowKit

/-- what package years gives -/
structure YearCore (I : World → Prop) : Prop where
  keep : ∀ {w w' : World}, I w → Below w.heap.size w w' → I w'
  check_in : ∀ {y : Int} (w : World), I w → -9223372036854775808 ≤ y → y ≤ 9223372036854775807 → isY y = true → Calls Tryd.prog 13 #[.int .i64 y] w fun e w' => e = .returned (.int .i64 0) ∧ Below w.heap.size w w'
  check_out : ∀ {y : Int} (w : World), I w → -9223372036854775808 ≤ y → y ≤ 9223372036854775807 → isY y = false → Calls Tryd.prog 13 #[.int .i64 y] w fun e w' => e = .returned (.int .i64 6) ∧ Below w.heap.size w w'
  leap_in : ∀ {y : Int} {b : Bool} (w : World), I w → -9223372036854775808 ≤ y → y ≤ 9223372036854775807 → isY y = true → leapB y = b → Calls Tryd.prog 7 #[.int .i64 y] w fun e w' => e = .returned (.tuple #[.bool b, .int .i64 0]) ∧ Below w.heap.size w w'
  leap_out : ∀ {y : Int} (w : World), I w → -9223372036854775808 ≤ y → y ≤ 9223372036854775807 → isY y = false → Calls Tryd.prog 7 #[.int .i64 y] w fun e w' => e = .returned (.tuple #[.bool false, .int .i64 6]) ∧ Below w.heap.size w w'
  len_in : ∀ {y v : Int} (w : World), I w → -9223372036854775808 ≤ y → y ≤ 9223372036854775807 → isY y = true → lenI y = v → Calls Tryd.prog 8 #[.int .i64 y] w fun e w' => e = .returned (.tuple #[.int .i64 v, .int .i64 0]) ∧ Below w.heap.size w w'
  len_out : ∀ {y : Int} (w : World), I w → -9223372036854775808 ≤ y → y ≤ 9223372036854775807 → isY y = false → Calls Tryd.prog 8 #[.int .i64 y] w fun e w' => e = .returned (.tuple #[.int .i64 0, .int .i64 6]) ∧ Below w.heap.size w w'
  start_in : ∀ {y v : Int} (w : World), I w → -9223372036854775808 ≤ y → y ≤ 9223372036854775807 → isY y = true → Sd y = v → Calls Tryd.prog 9 #[.int .i64 y] w fun e w' => e = .returned (.tuple #[.int .i64 v, .int .i64 0]) ∧ Below w.heap.size w w'
  start_out : ∀ {y : Int} (w : World), I w → -9223372036854775808 ≤ y → y ≤ 9223372036854775807 → isY y = false → Calls Tryd.prog 9 #[.int .i64 y] w fun e w' => e = .returned (.tuple #[.int .i64 0, .int .i64 6]) ∧ Below w.heap.size w w'
  end_in : ∀ {y v : Int} (w : World), I w → -9223372036854775808 ≤ y → y ≤ 9223372036854775807 → isY y = true → Sd (y + 1) - 1 = v → Calls Tryd.prog 10 #[.int .i64 y] w fun e w' => e = .returned (.tuple #[.int .i64 v, .int .i64 0]) ∧ Below w.heap.size w w'
  end_out : ∀ {y : Int} (w : World), I w → -9223372036854775808 ≤ y → y ≤ 9223372036854775807 → isY y = false → Calls Tryd.prog 10 #[.int .i64 y] w fun e w' => e = .returned (.tuple #[.int .i64 0, .int .i64 6]) ∧ Below w.heap.size w w'
  of_in : ∀ {d y : Int} (w : World), I w → -9223372036854775808 ≤ d → d ≤ 9223372036854775807 → YearHas y d → isY y = true → Calls Tryd.prog 19 #[.int .i64 d] w fun e w' => e = .returned (.tuple #[.int .i64 y, .int .i64 0]) ∧ Below w.heap.size w w'
  of_out : ∀ {d y : Int} (w : World), I w → -9223372036854775808 ≤ d → d ≤ 9223372036854775807 → YearHas y d → isY y = false → Calls Tryd.prog 19 #[.int .i64 d] w fun e w' => e = .returned (.tuple #[.int .i64 0, .int .i64 6]) ∧ Below w.heap.size w w'
  leaps_in : ∀ {a b v : Int} (w : World), I w → -9223372036854775808 ≤ a → a ≤ 9223372036854775807 → -9223372036854775808 ≤ b → b ≤ 9223372036854775807 → isY a = true → isY b = true → (if b < a then 0 else Lp (b + 1) - Lp a) = v → Calls Tryd.prog 21 #[.int .i64 a, .int .i64 b] w fun e w' => e = .returned (.tuple #[.int .i64 v, .int .i64 0]) ∧ Below w.heap.size w w'
  leaps_out : ∀ {a b : Int} (w : World), I w → -9223372036854775808 ≤ a → a ≤ 9223372036854775807 → -9223372036854775808 ≤ b → b ≤ 9223372036854775807 → (isY a = false ∨ isY a = true ∧ isY b = false) → Calls Tryd.prog 21 #[.int .i64 a, .int .i64 b] w fun e w' => e = .returned (.tuple #[.int .i64 0, .int .i64 6]) ∧ Below w.heap.size w w'
structure YearFns (I : World → Prop) : Prop extends YearCore I where
  lives : ∀ (w : World), I w → Calls Tryd.prog 14 #[] w fun e w' => e = .returned (.bool true) ∧ Below w.heap.size w w'
theorem numB_self (a : Int) : numB a 0 a = true := by unfold numB; simp
theorem badB_self : badB 0 6 = true := by decide
theorem y64 {y : Int} (h : isY y = true) : -10000000000000000 ≤ y ∧ y ≤ 10000000000000000 := (isY_iff y).1 h
set_option maxRecDepth 100000 in
set_option maxHeartbeats 4000000 in
theorem lawStart_any {I : World → Prop} (C : YearFns I) (y : Int) (w : World) (hI : I w) (h0 : -9223372036854775808 ≤ y) (h1 : y ≤ 9223372036854775807) :
    Calls Tryd.prog 3 #[.int .i64 y] w fun e w' => e = .returned (.bool true) ∧ Below w.heap.size w w' := by
  have HB := Kp.mk (Below.refl w.heap.size w)
  have HI := Kp.mk (fun (v : World) (h : Below w.heap.size w v) => C.keep hI h)
  clear hI
  have rl := Kp.mk (fun v (hw : Below w.heap.size w v) => C.lives v (HI.out v hw))
  have rb := Kp.mk (fun w => bad_is w badB_self)
  cases hy : isY y
  · have r1 := Kp.mk (fun v (hw : Below w.heap.size w v) => C.leap_out v (HI.out v hw) h0 h1 hy)
    have r2 := Kp.mk (fun v (hw : Below w.heap.size w v) => C.len_out v (HI.out v hw) h0 h1 hy)
    have r3 := Kp.mk (fun v (hw : Below w.heap.size w v) => C.start_out v (HI.out v hw) h0 h1 hy)
    have r4 := Kp.mk (fun v (hw : Below w.heap.size w v) => C.end_out v (HI.out v hw) h0 h1 hy)
    have r5 := Kp.mk (fun w => refIs_is w hy)
    have r6 := Kp.mk (fun v (hw : Below w.heap.size w v) => C.check_out v (HI.out v hw) h0 h1 hy)
    clear C hy h0 h1
    go_enter Tryd.func3, Tryd.ntmps3
    go_wp2_with fail
    refine (r1.out _ HB.out).mono ?_
    rintro e w' ⟨rfl, hbl⟩
    have HB := Kp.mk (HB.out.trans (hbl.mono HB.out.size))
    clear hbl
    go_wp2_with fail
    refine (r2.out _ HB.out).mono ?_
    rintro e w' ⟨rfl, hbl⟩
    have HB := Kp.mk (HB.out.trans (hbl.mono HB.out.size))
    clear hbl
    go_wp2_with fail
    refine (r3.out _ HB.out).mono ?_
    rintro e w' ⟨rfl, hbl⟩
    have HB := Kp.mk (HB.out.trans (hbl.mono HB.out.size))
    clear hbl
    go_wp2_with fail
    refine (r4.out _ HB.out).mono ?_
    rintro e w' ⟨rfl, hbl⟩
    have HB := Kp.mk (HB.out.trans (hbl.mono HB.out.size))
    clear hbl
    go_wp2_with fail
    refine (r5.out _).mono ?_
    rintro e w' ⟨rfl, rfl⟩
    go_wp2_with fail
    refine (rb.out _).mono ?_
    rintro e w' ⟨rfl, rfl⟩
    go_wp2_with fail
    refine (rb.out _).mono ?_
    rintro e w' ⟨rfl, rfl⟩
    go_wp2_with fail
    refine (rb.out _).mono ?_
    rintro e w' ⟨rfl, rfl⟩
    go_wp2_with fail
    refine (r6.out _ HB.out).mono ?_
    rintro e w' ⟨rfl, hbl⟩
    have HB := Kp.mk (HB.out.trans (hbl.mono HB.out.size))
    clear hbl
    go_wp2_with fail
    refine (rl.out _ HB.out).mono ?_
    rintro e w' ⟨rfl, hbl⟩
    have HB := Kp.mk (HB.out.trans (hbl.mono HB.out.size))
    clear hbl
    go_wp2_with fail
    go_ret
    exact ⟨rfl, HB.out⟩
  · have hyr := y64 hy
    obtain ⟨b, hb⟩ : ∃ b, leapB y = b := ⟨_, rfl⟩
    obtain ⟨n, hn⟩ : ∃ n, lenI y = n := ⟨_, rfl⟩
    obtain ⟨s, hs⟩ : ∃ s, Sd y = s := ⟨_, rfl⟩
    obtain ⟨t, ht⟩ : ∃ t, Sd (y + 1) - 1 = t := ⟨_, rfl⟩
    have hsu := Sd_succ y
    have hsi := Sd_in hy
    have htwo := lenI_two y
    have h4 : Sd (y + 400) = s + 146097 := by rw [show y + 400 = 400 * 1 + y by omega, Sd_400, hs]; omega
    rw [hs] at hsu hsi
    rw [hn] at hsu htwo
    have w1 : IntKind.i64.wrap (s + n) = s + n := IntWalk.i64_in _ (by omega)
    have w2 : IntKind.i64.wrap (s + n - 1) = t := by rw [show s + n - 1 = t by omega]; exact IntWalk.i64_in _ (by omega)
    have w3 : IntKind.i64.wrap (y + 1) = y + 1 := IntWalk.i64_in _ (by omega)
    have w4 : IntKind.i64.wrap (y + 400) = y + 400 := IntWalk.i64_in _ (by omega)
    have w5 : IntKind.i64.wrap (t + 1) = t + 1 := IntWalk.i64_in _ (by omega)
    have w6 : IntKind.i64.wrap (s + 146097) = s + 146097 := IntWalk.i64_in _ (by omega)
    have r1 := Kp.mk (fun v (hw : Below w.heap.size w v) => C.leap_in v (HI.out v hw) h0 h1 hy hb)
    have r2 := Kp.mk (fun v (hw : Below w.heap.size w v) => C.len_in v (HI.out v hw) h0 h1 hy hn)
    have r3 := Kp.mk (fun v (hw : Below w.heap.size w v) => C.start_in v (HI.out v hw) h0 h1 hy hs)
    have r4 := Kp.mk (fun v (hw : Below w.heap.size w v) => C.end_in v (HI.out v hw) h0 h1 hy ht)
    have r5 := Kp.mk (fun w => refIs_is w hy)
    have r6 := Kp.mk (fun w => refStart_is w (by omega) (by omega) hs)
    have r7 := Kp.mk (fun w => refLeap_is w hb)
    have r8 := Kp.mk (fun w => refLen_is w hn)
    have n1 := Kp.mk (fun w => num_is w (numB_self n))
    have n2 := Kp.mk (fun w => num_is w (numB_self s))
    have n3 := Kp.mk (fun w => num_is w (numB_self t))
    have r9 := Kp.mk (fun v (hw : Below w.heap.size w v) => C.check_in v (HI.out v hw) h0 h1 hy)
    have n4 := Kp.mk (fun w => num_is w (numB_self (t + 1)))
    have n5 := Kp.mk (fun w => num_is w (numB_self (s + 146097)))
    cases hx : isY (y + 1)
    · have q1 := Kp.mk (fun v (hw : Below w.heap.size w v) => C.start_out (y := y + 1) v (HI.out v hw) (by omega) (by omega) hx)
      have q2 := Kp.mk (fun w => refIs_is w hx)
      cases hz : isY (y + 400)
      · have q3 := Kp.mk (fun v (hw : Below w.heap.size w v) => C.start_out (y := y + 400) v (HI.out v hw) (by omega) (by omega) hz)
        have q4 := Kp.mk (fun w => refIs_is w hz)
        clear C hy h0 h1 hb hn hs ht hsu hsi htwo h4 hx hz hyr
        go_enter Tryd.func3, Tryd.ntmps3
        go_wp2_with fail
        refine (r1.out _ HB.out).mono ?_
        rintro e w' ⟨rfl, hbl⟩
        have HB := Kp.mk (HB.out.trans (hbl.mono HB.out.size))
        clear hbl
        go_wp2_with fail
        refine (r2.out _ HB.out).mono ?_
        rintro e w' ⟨rfl, hbl⟩
        have HB := Kp.mk (HB.out.trans (hbl.mono HB.out.size))
        clear hbl
        go_wp2_with fail
        refine (r3.out _ HB.out).mono ?_
        rintro e w' ⟨rfl, hbl⟩
        have HB := Kp.mk (HB.out.trans (hbl.mono HB.out.size))
        clear hbl
        go_wp2_with fail
        refine (r4.out _ HB.out).mono ?_
        rintro e w' ⟨rfl, hbl⟩
        have HB := Kp.mk (HB.out.trans (hbl.mono HB.out.size))
        clear hbl
        go_wp2_with fail
        refine (r5.out _).mono ?_
        rintro e w' ⟨rfl, rfl⟩
        go_wp2_with fail
        refine (r6.out _).mono ?_
        rintro e w' ⟨rfl, rfl⟩
        go_wp2_with fail
        refine (r7.out _).mono ?_
        rintro e w' ⟨rfl, rfl⟩
        go_wp2_with fail
        refine (r8.out _).mono ?_
        rintro e w' ⟨rfl, rfl⟩
        go_wp2_with fail
        refine (n1.out _).mono ?_
        rintro e w' ⟨rfl, rfl⟩
        go_wp2_with fail
        refine (n2.out _).mono ?_
        rintro e w' ⟨rfl, rfl⟩
        go_wp2_with fail
        refine (r8.out _).mono ?_
        rintro e w' ⟨rfl, rfl⟩
        go_wp2_with fail
        refine (n3.out _).mono ?_
        rintro e w' ⟨rfl, rfl⟩
        go_wp2_with fail
        refine (r9.out _ HB.out).mono ?_
        rintro e w' ⟨rfl, hbl⟩
        have HB := Kp.mk (HB.out.trans (hbl.mono HB.out.size))
        clear hbl
        go_wp2_with fail
        refine (q1.out _ HB.out).mono ?_
        rintro e w' ⟨rfl, hbl⟩
        have HB := Kp.mk (HB.out.trans (hbl.mono HB.out.size))
        clear hbl
        go_wp2_with fail
        refine (q2.out _).mono ?_
        rintro e w' ⟨rfl, rfl⟩
        go_wp2_with fail
        refine (q3.out _ HB.out).mono ?_
        rintro e w' ⟨rfl, hbl⟩
        have HB := Kp.mk (HB.out.trans (hbl.mono HB.out.size))
        clear hbl
        go_wp2_with fail
        refine (q4.out _).mono ?_
        rintro e w' ⟨rfl, rfl⟩
        go_wp2_with fail
        refine (rl.out _ HB.out).mono ?_
        rintro e w' ⟨rfl, hbl⟩
        have HB := Kp.mk (HB.out.trans (hbl.mono HB.out.size))
        clear hbl
        go_wp2_with fail
        go_ret
        exact ⟨rfl, HB.out⟩
      · exfalso
        rw [isY_iff] at hz
        have : isY (y + 1) = true := (isY_iff _).2 ⟨by omega, by omega⟩
        rw [hx] at this
        cases this
    · have q1 := Kp.mk (fun v (hw : Below w.heap.size w v) => C.start_in (y := y + 1) (v := t + 1) v (HI.out v hw) (by omega) (by omega) hx (by omega))
      have q2 := Kp.mk (fun w => refIs_is w hx)
      cases hz : isY (y + 400)
      · have q3 := Kp.mk (fun v (hw : Below w.heap.size w v) => C.start_out (y := y + 400) v (HI.out v hw) (by omega) (by omega) hz)
        have q4 := Kp.mk (fun w => refIs_is w hz)
        clear C hy h0 h1 hb hn hs ht hsu hsi htwo h4 hx hz hyr
        go_enter Tryd.func3, Tryd.ntmps3
        go_wp2_with fail
        refine (r1.out _ HB.out).mono ?_
        rintro e w' ⟨rfl, hbl⟩
        have HB := Kp.mk (HB.out.trans (hbl.mono HB.out.size))
        clear hbl
        go_wp2_with fail
        refine (r2.out _ HB.out).mono ?_
        rintro e w' ⟨rfl, hbl⟩
        have HB := Kp.mk (HB.out.trans (hbl.mono HB.out.size))
        clear hbl
        go_wp2_with fail
        refine (r3.out _ HB.out).mono ?_
        rintro e w' ⟨rfl, hbl⟩
        have HB := Kp.mk (HB.out.trans (hbl.mono HB.out.size))
        clear hbl
        go_wp2_with fail
        refine (r4.out _ HB.out).mono ?_
        rintro e w' ⟨rfl, hbl⟩
        have HB := Kp.mk (HB.out.trans (hbl.mono HB.out.size))
        clear hbl
        go_wp2_with fail
        refine (r5.out _).mono ?_
        rintro e w' ⟨rfl, rfl⟩
        go_wp2_with fail
        refine (r6.out _).mono ?_
        rintro e w' ⟨rfl, rfl⟩
        go_wp2_with fail
        refine (r7.out _).mono ?_
        rintro e w' ⟨rfl, rfl⟩
        go_wp2_with fail
        refine (r8.out _).mono ?_
        rintro e w' ⟨rfl, rfl⟩
        go_wp2_with fail
        refine (n1.out _).mono ?_
        rintro e w' ⟨rfl, rfl⟩
        go_wp2_with fail
        refine (n2.out _).mono ?_
        rintro e w' ⟨rfl, rfl⟩
        go_wp2_with fail
        refine (r8.out _).mono ?_
        rintro e w' ⟨rfl, rfl⟩
        go_wp2_with fail
        refine (n3.out _).mono ?_
        rintro e w' ⟨rfl, rfl⟩
        go_wp2_with fail
        refine (r9.out _ HB.out).mono ?_
        rintro e w' ⟨rfl, hbl⟩
        have HB := Kp.mk (HB.out.trans (hbl.mono HB.out.size))
        clear hbl
        go_wp2_with fail
        refine (q1.out _ HB.out).mono ?_
        rintro e w' ⟨rfl, hbl⟩
        have HB := Kp.mk (HB.out.trans (hbl.mono HB.out.size))
        clear hbl
        go_wp2_with fail
        refine (q2.out _).mono ?_
        rintro e w' ⟨rfl, rfl⟩
        go_wp2_with fail
        refine (n4.out _).mono ?_
        rintro e w' ⟨rfl, rfl⟩
        go_wp2_with fail
        refine (q3.out _ HB.out).mono ?_
        rintro e w' ⟨rfl, hbl⟩
        have HB := Kp.mk (HB.out.trans (hbl.mono HB.out.size))
        clear hbl
        go_wp2_with fail
        refine (q4.out _).mono ?_
        rintro e w' ⟨rfl, rfl⟩
        go_wp2_with fail
        refine (rl.out _ HB.out).mono ?_
        rintro e w' ⟨rfl, hbl⟩
        have HB := Kp.mk (HB.out.trans (hbl.mono HB.out.size))
        clear hbl
        go_wp2_with fail
        go_ret
        exact ⟨rfl, HB.out⟩
      · have q3 := Kp.mk (fun v (hw : Below w.heap.size w v) => C.start_in (y := y + 400) (v := s + 146097) v (HI.out v hw) (by omega) (by omega) hz h4)
        have q4 := Kp.mk (fun w => refIs_is w hz)
        clear C hy h0 h1 hb hn hs ht hsu hsi htwo h4 hx hz hyr
        go_enter Tryd.func3, Tryd.ntmps3
        go_wp2_with fail
        refine (r1.out _ HB.out).mono ?_
        rintro e w' ⟨rfl, hbl⟩
        have HB := Kp.mk (HB.out.trans (hbl.mono HB.out.size))
        clear hbl
        go_wp2_with fail
        refine (r2.out _ HB.out).mono ?_
        rintro e w' ⟨rfl, hbl⟩
        have HB := Kp.mk (HB.out.trans (hbl.mono HB.out.size))
        clear hbl
        go_wp2_with fail
        refine (r3.out _ HB.out).mono ?_
        rintro e w' ⟨rfl, hbl⟩
        have HB := Kp.mk (HB.out.trans (hbl.mono HB.out.size))
        clear hbl
        go_wp2_with fail
        refine (r4.out _ HB.out).mono ?_
        rintro e w' ⟨rfl, hbl⟩
        have HB := Kp.mk (HB.out.trans (hbl.mono HB.out.size))
        clear hbl
        go_wp2_with fail
        refine (r5.out _).mono ?_
        rintro e w' ⟨rfl, rfl⟩
        go_wp2_with fail
        refine (r6.out _).mono ?_
        rintro e w' ⟨rfl, rfl⟩
        go_wp2_with fail
        refine (r7.out _).mono ?_
        rintro e w' ⟨rfl, rfl⟩
        go_wp2_with fail
        refine (r8.out _).mono ?_
        rintro e w' ⟨rfl, rfl⟩
        go_wp2_with fail
        refine (n1.out _).mono ?_
        rintro e w' ⟨rfl, rfl⟩
        go_wp2_with fail
        refine (n2.out _).mono ?_
        rintro e w' ⟨rfl, rfl⟩
        go_wp2_with fail
        refine (r8.out _).mono ?_
        rintro e w' ⟨rfl, rfl⟩
        go_wp2_with fail
        refine (n3.out _).mono ?_
        rintro e w' ⟨rfl, rfl⟩
        go_wp2_with fail
        refine (r9.out _ HB.out).mono ?_
        rintro e w' ⟨rfl, hbl⟩
        have HB := Kp.mk (HB.out.trans (hbl.mono HB.out.size))
        clear hbl
        go_wp2_with fail
        refine (q1.out _ HB.out).mono ?_
        rintro e w' ⟨rfl, hbl⟩
        have HB := Kp.mk (HB.out.trans (hbl.mono HB.out.size))
        clear hbl
        go_wp2_with fail
        refine (q2.out _).mono ?_
        rintro e w' ⟨rfl, rfl⟩
        go_wp2_with fail
        refine (n4.out _).mono ?_
        rintro e w' ⟨rfl, rfl⟩
        go_wp2_with fail
        refine (q3.out _ HB.out).mono ?_
        rintro e w' ⟨rfl, hbl⟩
        have HB := Kp.mk (HB.out.trans (hbl.mono HB.out.size))
        clear hbl
        go_wp2_with fail
        refine (q4.out _).mono ?_
        rintro e w' ⟨rfl, rfl⟩
        go_wp2_with fail
        refine (n5.out _).mono ?_
        rintro e w' ⟨rfl, rfl⟩
        go_wp2_with fail
        refine (rl.out _ HB.out).mono ?_
        rintro e w' ⟨rfl, hbl⟩
        have HB := Kp.mk (HB.out.trans (hbl.mono HB.out.size))
        clear hbl
        go_wp2_with fail
        go_ret
        exact ⟨rfl, HB.out⟩
set_option maxRecDepth 100000 in
set_option maxHeartbeats 4000000 in
theorem lawOf_any {I : World → Prop} (C : YearFns I) (d : Int) (w : World) (hI : I w) (h0 : -9223372036854775808 ≤ d) (h1 : d ≤ 9223372036854775807) :
    Calls Tryd.prog 4 #[.int .i64 d] w fun e w' => e = .returned (.bool true) ∧ Below w.heap.size w w' := by
  have HB := Kp.mk (Below.refl w.heap.size w)
  have HI := Kp.mk (fun (v : World) (h : Below w.heap.size w v) => C.keep hI h)
  clear hI
  have rl := Kp.mk (fun v (hw : Below w.heap.size w v) => C.lives v (HI.out v hw))
  have rb := Kp.mk (fun w => bad_is w badB_self)
  obtain ⟨y, hyd⟩ := year_exists d
  cases hy : isY y
  · have r1 := Kp.mk (fun v (hw : Below w.heap.size w v) => C.of_out v (HI.out v hw) h0 h1 hyd hy)
    have r2 := Kp.mk (fun w => refOf_is w h0 h1 hyd hy)
    clear C hy hyd h0 h1
    go_enter Tryd.func4, Tryd.ntmps4
    go_wp2_with fail
    refine (r1.out _ HB.out).mono ?_
    rintro e w' ⟨rfl, hbl⟩
    have HB := Kp.mk (HB.out.trans (hbl.mono HB.out.size))
    clear hbl
    go_wp2_with fail
    refine (r2.out _).mono ?_
    rintro e w' ⟨rfl, rfl⟩
    go_wp2_with fail
    refine (rb.out _).mono ?_
    rintro e w' ⟨rfl, rfl⟩
    go_wp2_with fail
    refine (rl.out _ HB.out).mono ?_
    rintro e w' ⟨rfl, hbl⟩
    have HB := Kp.mk (HB.out.trans (hbl.mono HB.out.size))
    clear hbl
    go_wp2_with fail
    go_ret
    exact ⟨rfl, HB.out⟩
  · have hyr := y64 hy
    obtain ⟨s, hs⟩ : ∃ s, Sd y = s := ⟨_, rfl⟩
    obtain ⟨t, ht⟩ : ∃ t, Sd (y + 1) - 1 = t := ⟨_, rfl⟩
    have hsd : s ≤ d := by rw [← hs]; exact hyd.1
    have hdt : d ≤ t := by have := hyd.2; omega
    have r1 := Kp.mk (fun v (hw : Below w.heap.size w v) => C.of_in v (HI.out v hw) h0 h1 hyd hy)
    have r2 := Kp.mk (fun w => refOf_is w h0 h1 hyd hy)
    have r3 := Kp.mk (fun v (hw : Below w.heap.size w v) => C.start_in (y := y) v (HI.out v hw) (by omega) (by omega) hy hs)
    have r4 := Kp.mk (fun v (hw : Below w.heap.size w v) => C.end_in (y := y) v (HI.out v hw) (by omega) (by omega) hy ht)
    have n1 := Kp.mk (fun w => num_is w (numB_self y))
    clear C hy hyd h0 h1 hyr hs ht
    go_enter Tryd.func4, Tryd.ntmps4
    go_wp2_with fail
    refine (r1.out _ HB.out).mono ?_
    rintro e w' ⟨rfl, hbl⟩
    have HB := Kp.mk (HB.out.trans (hbl.mono HB.out.size))
    clear hbl
    go_wp2_with fail
    refine (r2.out _).mono ?_
    rintro e w' ⟨rfl, rfl⟩
    go_wp2_with fail
    refine (r3.out _ HB.out).mono ?_
    rintro e w' ⟨rfl, hbl⟩
    have HB := Kp.mk (HB.out.trans (hbl.mono HB.out.size))
    clear hbl
    go_wp2_with fail
    refine (r4.out _ HB.out).mono ?_
    rintro e w' ⟨rfl, hbl⟩
    have HB := Kp.mk (HB.out.trans (hbl.mono HB.out.size))
    clear hbl
    go_wp2_with fail
    refine (n1.out _).mono ?_
    rintro e w' ⟨rfl, rfl⟩
    go_wp2_with fail
    refine (rl.out _ HB.out).mono ?_
    rintro e w' ⟨rfl, hbl⟩
    have HB := Kp.mk (HB.out.trans (hbl.mono HB.out.size))
    clear hbl
    go_wp2_with fail
    go_ret
    exact ⟨rfl, HB.out⟩
set_option maxRecDepth 100000 in
set_option maxHeartbeats 4000000 in
theorem lawLeaps_any {I : World → Prop} (C : YearFns I) (a b c : Int) (w : World) (hI : I w) (a0 : -9223372036854775808 ≤ a) (a1 : a ≤ 9223372036854775807) (b0 : -9223372036854775808 ≤ b) (b1 : b ≤ 9223372036854775807) :
    Calls Tryd.prog 5 #[.int .i64 a, .int .i64 b, .int .i64 c] w fun e w' => e = .returned (.bool true) ∧ Below w.heap.size w w' := by
  have HB := Kp.mk (Below.refl w.heap.size w)
  have HI := Kp.mk (fun (v : World) (h : Below w.heap.size w v) => C.keep hI h)
  clear hI
  have rl := Kp.mk (fun v (hw : Below w.heap.size w v) => C.lives v (HI.out v hw))
  have rb := Kp.mk (fun w => bad_is w badB_self)
  cases ha : isY a
  · have r1 := Kp.mk (fun v (hw : Below w.heap.size w v) => C.leaps_out (b := b) v (HI.out v hw) a0 a1 b0 b1 (.inl ha))
    have r2 := Kp.mk (fun w => refIs_is w ha)
    clear C ha a0 a1 b0 b1
    go_enter Tryd.func5, Tryd.ntmps5
    go_wp2_with fail
    refine (r1.out _ HB.out).mono ?_
    rintro e w' ⟨rfl, hbl⟩
    have HB := Kp.mk (HB.out.trans (hbl.mono HB.out.size))
    clear hbl
    go_wp2_with fail
    refine (r2.out _).mono ?_
    rintro e w' ⟨rfl, rfl⟩
    go_wp2_with fail
    refine (rb.out _).mono ?_
    rintro e w' ⟨rfl, rfl⟩
    go_wp2_with fail
    refine (rl.out _ HB.out).mono ?_
    rintro e w' ⟨rfl, hbl⟩
    have HB := Kp.mk (HB.out.trans (hbl.mono HB.out.size))
    clear hbl
    go_wp2_with fail
    go_ret
    exact ⟨rfl, HB.out⟩
  · have r2 := Kp.mk (fun w => refIs_is w ha)
    cases hb : isY b
    · have r1 := Kp.mk (fun v (hw : Below w.heap.size w v) => C.leaps_out (b := b) v (HI.out v hw) a0 a1 b0 b1 (.inr ⟨ha, hb⟩))
      have r3 := Kp.mk (fun w => refIs_is w hb)
      clear C ha hb a0 a1 b0 b1
      go_enter Tryd.func5, Tryd.ntmps5
      go_wp2_with fail
      refine (r1.out _ HB.out).mono ?_
      rintro e w' ⟨rfl, hbl⟩
      have HB := Kp.mk (HB.out.trans (hbl.mono HB.out.size))
      clear hbl
      go_wp2_with fail
      refine (r2.out _).mono ?_
      rintro e w' ⟨rfl, rfl⟩
      go_wp2_with fail
      refine (r3.out _).mono ?_
      rintro e w' ⟨rfl, rfl⟩
      go_wp2_with fail
      refine (rb.out _).mono ?_
      rintro e w' ⟨rfl, rfl⟩
      go_wp2_with fail
      refine (rl.out _ HB.out).mono ?_
      rintro e w' ⟨rfl, hbl⟩
      have HB := Kp.mk (HB.out.trans (hbl.mono HB.out.size))
      clear hbl
      go_wp2_with fail
      go_ret
      exact ⟨rfl, HB.out⟩
    · have r3 := Kp.mk (fun w => refIs_is w hb)
      obtain ⟨v, hv⟩ : ∃ v, (if b < a then 0 else Lp (b + 1) - Lp a) = v := ⟨_, rfl⟩
      have r1 := Kp.mk (fun v (hw : Below w.heap.size w v) => C.leaps_in v (HI.out v hw) a0 a1 b0 b1 ha hb hv)
      have r4 := Kp.mk (fun w => refLeaps_is w ha hb hv)
      have n1 := Kp.mk (fun w => num_is w (numB_self v))
      by_cases hca : c < a
      · clear C ha hb a0 a1 b0 b1 hv
        go_enter Tryd.func5, Tryd.ntmps5
        go_wp2_with fail
        refine (r1.out _ HB.out).mono ?_
        rintro e w' ⟨rfl, hbl⟩
        have HB := Kp.mk (HB.out.trans (hbl.mono HB.out.size))
        clear hbl
        go_wp2_with fail
        refine (r2.out _).mono ?_
        rintro e w' ⟨rfl, rfl⟩
        go_wp2_with fail
        refine (r3.out _).mono ?_
        rintro e w' ⟨rfl, rfl⟩
        go_wp2_with fail
        refine (r4.out _).mono ?_
        rintro e w' ⟨rfl, rfl⟩
        go_wp2_with fail
        refine (n1.out _).mono ?_
        rintro e w' ⟨rfl, rfl⟩
        go_wp2_with fail
        refine (rl.out _ HB.out).mono ?_
        rintro e w' ⟨rfl, hbl⟩
        have HB := Kp.mk (HB.out.trans (hbl.mono HB.out.size))
        clear hbl
        go_wp2_with fail
        go_ret
        exact ⟨rfl, HB.out⟩
      · by_cases hcb : b ≤ c
        · clear C ha hb a0 a1 b0 b1 hv
          go_enter Tryd.func5, Tryd.ntmps5
          go_wp2_with fail
          refine (r1.out _ HB.out).mono ?_
          rintro e w' ⟨rfl, hbl⟩
          have HB := Kp.mk (HB.out.trans (hbl.mono HB.out.size))
          clear hbl
          go_wp2_with fail
          refine (r2.out _).mono ?_
          rintro e w' ⟨rfl, rfl⟩
          go_wp2_with fail
          refine (r3.out _).mono ?_
          rintro e w' ⟨rfl, rfl⟩
          go_wp2_with fail
          refine (r4.out _).mono ?_
          rintro e w' ⟨rfl, rfl⟩
          go_wp2_with fail
          refine (n1.out _).mono ?_
          rintro e w' ⟨rfl, rfl⟩
          go_wp2_with fail
          refine (rl.out _ HB.out).mono ?_
          rintro e w' ⟨rfl, hbl⟩
          have HB := Kp.mk (HB.out.trans (hbl.mono HB.out.size))
          clear hbl
          go_wp2_with fail
          go_ret
          exact ⟨rfl, HB.out⟩
        · have ha2 := y64 ha
          have hb2 := y64 hb
          have hc : isY c = true := (isY_iff c).2 ⟨by omega, by omega⟩
          have hc1 : isY (c + 1) = true := (isY_iff (c + 1)).2 ⟨by omega, by omega⟩
          obtain ⟨x, hx⟩ : ∃ x, Lp (c + 1) - Lp a = x := ⟨_, rfl⟩
          obtain ⟨z, hz⟩ : ∃ z, Lp (b + 1) - Lp (c + 1) = z := ⟨_, rfl⟩
          have q1 := Kp.mk (fun v (hw : Below w.heap.size w v) => C.leaps_in (a := a) (b := c) (v := x) v (HI.out v hw) a0 a1 (by omega) (by omega) ha hc (by rw [if_neg hca]; exact hx))
          have q2 := Kp.mk (fun v (hw : Below w.heap.size w v) => C.leaps_in (a := c + 1) (b := b) (v := z) v (HI.out v hw) (by omega) (by omega) b0 b1 hc1 hb (by rw [if_neg (by omega)]; exact hz))
          have hl1 := Lp_le (show a ≤ c + 1 by omega)
          have hl2 := Lp_le (show c + 1 ≤ b + 1 by omega)
          have hl3 : Lp (b + 1) - Lp a ≤ 20000000000000000 := by unfold Lp; omega
          rw [if_neg (by omega)] at hv
          have w1 : IntKind.i64.wrap (c + 1) = c + 1 := IntWalk.i64_in _ (by omega)
          have w2 : IntKind.i64.wrap (x + z) = v := by rw [show x + z = v by omega]; exact IntWalk.i64_in _ (by omega)
          clear C ha hb a0 a1 b0 b1 hv ha2 hb2 hc hc1 hx hz hl1 hl2 hl3
          go_enter Tryd.func5, Tryd.ntmps5
          go_wp2_with fail
          refine (r1.out _ HB.out).mono ?_
          rintro e w' ⟨rfl, hbl⟩
          have HB := Kp.mk (HB.out.trans (hbl.mono HB.out.size))
          clear hbl
          go_wp2_with fail
          refine (r2.out _).mono ?_
          rintro e w' ⟨rfl, rfl⟩
          go_wp2_with fail
          refine (r3.out _).mono ?_
          rintro e w' ⟨rfl, rfl⟩
          go_wp2_with fail
          refine (r4.out _).mono ?_
          rintro e w' ⟨rfl, rfl⟩
          go_wp2_with fail
          refine (n1.out _).mono ?_
          rintro e w' ⟨rfl, rfl⟩
          go_wp2_with fail
          refine (q1.out _ HB.out).mono ?_
          rintro e w' ⟨rfl, hbl⟩
          have HB := Kp.mk (HB.out.trans (hbl.mono HB.out.size))
          clear hbl
          go_wp2_with fail
          refine (q2.out _ HB.out).mono ?_
          rintro e w' ⟨rfl, hbl⟩
          have HB := Kp.mk (HB.out.trans (hbl.mono HB.out.size))
          clear hbl
          go_wp2_with fail
          refine (rl.out _ HB.out).mono ?_
          rintro e w' ⟨rfl, hbl⟩
          have HB := Kp.mk (HB.out.trans (hbl.mono HB.out.size))
          clear hbl
          go_wp2_with fail
          go_ret
          exact ⟨rfl, HB.out⟩
theorem yearHas_start (y : Int) : YearHas y (Sd y) := ⟨Int.le_refl _, Sd_lt (by omega)⟩
theorem yearHas_before (y : Int) : YearHas (y - 1) (Sd y - 1) := by
  have h := Sd_lt (show y - 1 < y by omega)
  exact ⟨by omega, by rw [show y - 1 + 1 = y by omega]; omega⟩
set_option maxRecDepth 100000 in
set_option maxHeartbeats 4000000 in
theorem lawKnown_any {I : World → Prop} (C : YearFns I) (w : World) (hI : I w) :
    Calls Tryd.prog 6 #[] w fun e w' => e = .returned (.bool true) ∧ Below w.heap.size w w' := by
  have HB := Kp.mk (Below.refl w.heap.size w)
  have HI := Kp.mk (fun (v : World) (h : Below w.heap.size w v) => C.keep hI h)
  clear hI
  have HC := Kp.mk C
  clear C
  go_enter Tryd.func6, Tryd.ntmps6
  go_wp2_with fail
  go_loopw [1, 2] (fun d y wr => ∃ j : Int, -400 ≤ j ∧ j ≤ 500 ∧ y = .int .i64 j ∧ d = .int .i64 (Sd j) ∧ Kp (Below w.heap.size w wr)) (fun _ y _ => (500 - intOf y).toNat)
  case atStart => exact ⟨-400, by omega, by omega, rfl, rfl, HB⟩
  case round =>
    obtain ⟨j, hj0, hj1, rfl, rfl, HB⟩ := hrel
    by_cases hlt : j < 500
    · have hy : isY j = true := (isY_iff j).2 ⟨by omega, by omega⟩
      have hy1 : isY (j - 1) = true := (isY_iff (j - 1)).2 ⟨by omega, by omega⟩
      have hss := Sd_succ j
      have hsi := Sd_in hy
      obtain ⟨l, hl⟩ : ∃ l, lenI j = l := ⟨_, rfl⟩
      have htwo := lenI_two j
      have hh1 := yearHas_start j
      have hh2 := yearHas_before j
      rw [hl] at hss htwo
      have HNX := Kp.mk hss
      have r1 := Kp.mk (fun v (hw : Below w.heap.size w v) => HC.out.start_in (y := j) v (HI.out v hw) (by omega) (by omega) hy rfl)
      have r2 := Kp.mk (fun v (hw : Below w.heap.size w v) => HC.out.of_in (d := Sd j) (y := j) v (HI.out v hw) (by omega) (by omega) hh1 hy)
      have r3 := Kp.mk (fun v (hw : Below w.heap.size w v) => HC.out.of_in (d := Sd j - 1) (y := j - 1) v (HI.out v hw) (by omega) (by omega) hh2 hy1)
      have r4 := Kp.mk (fun w => refLen_is w hl)
      have w7 : IntKind.i64.wrap (Sd j + l) = Sd (j + 1) := by rw [hss]; exact IntWalk.i64_in _ (by omega)
      clear hss HNX hl
      generalize Sd j = s at *
      have n1 := Kp.mk (fun w => num_is w (numB_self s))
      have n2 := Kp.mk (fun w => num_is w (numB_self j))
      have n3 := Kp.mk (fun w => num_is w (numB_self (j - 1)))
      have w1 : IntKind.i64.wrap (s - 1) = s - 1 := IntWalk.i64_in _ (by omega)
      have w2 : IntKind.i64.wrap (j - 1) = j - 1 := IntWalk.i64_in _ (by omega)
      have w3 : IntKind.i64.wrap (j + 1) = j + 1 := IntWalk.i64_in _ (by omega)
      clear hy hy1 hsi htwo hh1 hh2
      go_wp2_with fail
      refine (r1.out _ HB.out).mono ?_
      rintro e w' ⟨rfl, hbl⟩
      have HB := Kp.mk (HB.out.trans (hbl.mono HB.out.size))
      clear hbl
      go_wp2_with fail
      refine (r2.out _ HB.out).mono ?_
      rintro e w' ⟨rfl, hbl⟩
      have HB := Kp.mk (HB.out.trans (hbl.mono HB.out.size))
      clear hbl
      go_wp2_with fail
      refine (r3.out _ HB.out).mono ?_
      rintro e w' ⟨rfl, hbl⟩
      have HB := Kp.mk (HB.out.trans (hbl.mono HB.out.size))
      clear hbl
      go_wp2_with fail
      refine (n1.out _).mono ?_
      rintro e w' ⟨rfl, rfl⟩
      go_wp2_with fail
      refine (n2.out _).mono ?_
      rintro e w' ⟨rfl, rfl⟩
      go_wp2_with fail
      refine (n3.out _).mono ?_
      rintro e w' ⟨rfl, rfl⟩
      go_wp2_with fail
      refine (r4.out _).mono ?_
      rintro e w' ⟨rfl, rfl⟩
      go_wp2_with fail
      go_roundw
      case rel => exact ⟨j + 1, by omega, by omega, rfl, rfl, HB⟩
      case measure => simp [intOf]; omega
    · obtain rfl : j = 500 := by omega
      have hv := Sd_vals
      have r1 := Kp.mk (fun v (hw : Below w.heap.size w v) => HC.out.start_in (y := -10000000000000000) v (HI.out v hw) (by omega) (by omega) (by decide) hv.1)
      have r2 := Kp.mk (fun v (hw : Below w.heap.size w v) => HC.out.end_in (y := 10000000000000000) (v := 3652425000000000365) v (HI.out v hw) (by omega) (by omega) (by decide) (by decide))
      have n1 := Kp.mk (fun w => num_is w (numB_self (-3652425000000000000)))
      have o1 := Kp.mk (fun v (hw : Below w.heap.size w v) => lawOf_any HC.out (-3652425000000000000) v (HI.out v hw) (by omega) (by omega))
      have o2 := Kp.mk (fun v (hw : Below w.heap.size w v) => lawOf_any HC.out (-3652425000000000001) v (HI.out v hw) (by omega) (by omega))
      have o3 := Kp.mk (fun v (hw : Below w.heap.size w v) => lawOf_any HC.out 3652425000000000365 v (HI.out v hw) (by omega) (by omega))
      have o4 := Kp.mk (fun v (hw : Below w.heap.size w v) => lawOf_any HC.out 3652425000000000366 v (HI.out v hw) (by omega) (by omega))
      have o5 := Kp.mk (fun v (hw : Below w.heap.size w v) => lawOf_any HC.out 9223372036854775807 v (HI.out v hw) (by omega) (by omega))
      have o6 := Kp.mk (fun v (hw : Below w.heap.size w v) => lawOf_any HC.out (-9223372036854775808) v (HI.out v hw) (by omega) (by omega))
      have o7 := Kp.mk (fun v (hw : Below w.heap.size w v) => lawStart_any HC.out (-10000000000000001) v (HI.out v hw) (by omega) (by omega))
      have o8 := Kp.mk (fun v (hw : Below w.heap.size w v) => lawStart_any HC.out 9223372036854775807 v (HI.out v hw) (by omega) (by omega))
      have rl := Kp.mk (fun v (hw : Below w.heap.size w v) => HC.out.lives v (HI.out v hw))
      clear hv
      generalize Sd 500 = s at *
      go_wp2_with fail
      refine (r1.out _ HB.out).mono ?_
      rintro e w' ⟨rfl, hbl⟩
      have HB := Kp.mk (HB.out.trans (hbl.mono HB.out.size))
      clear hbl
      go_wp2_with fail
      refine (r2.out _ HB.out).mono ?_
      rintro e w' ⟨rfl, hbl⟩
      have HB := Kp.mk (HB.out.trans (hbl.mono HB.out.size))
      clear hbl
      go_wp2_with fail
      refine (n1.out _).mono ?_
      rintro e w' ⟨rfl, rfl⟩
      go_wp2_with fail
      refine (o1.out _ HB.out).mono ?_
      rintro e w' ⟨rfl, hbl⟩
      have HB := Kp.mk (HB.out.trans (hbl.mono HB.out.size))
      clear hbl
      go_wp2_with fail
      refine (o2.out _ HB.out).mono ?_
      rintro e w' ⟨rfl, hbl⟩
      have HB := Kp.mk (HB.out.trans (hbl.mono HB.out.size))
      clear hbl
      go_wp2_with fail
      refine (o3.out _ HB.out).mono ?_
      rintro e w' ⟨rfl, hbl⟩
      have HB := Kp.mk (HB.out.trans (hbl.mono HB.out.size))
      clear hbl
      go_wp2_with fail
      refine (o4.out _ HB.out).mono ?_
      rintro e w' ⟨rfl, hbl⟩
      have HB := Kp.mk (HB.out.trans (hbl.mono HB.out.size))
      clear hbl
      go_wp2_with fail
      refine (o5.out _ HB.out).mono ?_
      rintro e w' ⟨rfl, hbl⟩
      have HB := Kp.mk (HB.out.trans (hbl.mono HB.out.size))
      clear hbl
      go_wp2_with fail
      refine (o6.out _ HB.out).mono ?_
      rintro e w' ⟨rfl, hbl⟩
      have HB := Kp.mk (HB.out.trans (hbl.mono HB.out.size))
      clear hbl
      go_wp2_with fail
      refine (o7.out _ HB.out).mono ?_
      rintro e w' ⟨rfl, hbl⟩
      have HB := Kp.mk (HB.out.trans (hbl.mono HB.out.size))
      clear hbl
      go_wp2_with fail
      refine (o8.out _ HB.out).mono ?_
      rintro e w' ⟨rfl, hbl⟩
      have HB := Kp.mk (HB.out.trans (hbl.mono HB.out.size))
      clear hbl
      go_wp2_with fail
      refine (rl.out _ HB.out).mono ?_
      rintro e w' ⟨rfl, hbl⟩
      have HB := Kp.mk (HB.out.trans (hbl.mono HB.out.size))
      clear hbl
      go_wp2_with fail
      go_ret
      exact ⟨rfl, HB.out⟩
end Go.Proofs.YtdjcpobnbjeohaaDoor
