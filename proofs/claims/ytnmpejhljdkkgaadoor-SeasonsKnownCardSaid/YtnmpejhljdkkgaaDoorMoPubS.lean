/-
  DERIVED. CONTRACTS of package months: Start, Of (what later layers call).
-/
import Derived.Test.YtnmpejhljdkkgaaDoorMoDev
import Derived.OwnWalk
import Derived.BigQuiet
import Derived.WalkSmall
import Derived.Deep.Cut
namespace Go.Proofs.YtnmpejhljdkkgaaDoor
open Go.RowKit
set_option maxRecDepth 100000

theorem pStart_out {y m c : Int} (hc : chkM y m = c) (h0 : ¬ c = 0) (w : World) : Calls Tryd.prog 23 #[.int .i64 y, .int .i64 m] w fun e w' => e = .returned (.tuple #[.int .i64 0, .int .i64 c]) ∧ w = w' := by
  have r1 := Kp.mk (fun w => mcheck_is hc w)
  have t1 : (c != 0) = true := by rw [bne_iff_ne]; exact h0
  clear hc h0
  go_enter Tryd.func23, Tryd.ntmps23
  go_wp2_with fail
  refine (r1.out _).mono ?_
  rintro e w' ⟨rfl, rfl⟩
  go_wp2_with fail
  go_ret2
  exact ⟨rfl, rfl⟩
set_option maxHeartbeats 1000000 in
theorem pStart_in {y m v : Int} (hc : chkM y m = 0) (hv : Sm y m = v) (w : World) (hL : LaidMo w) : Calls Tryd.prog 23 #[.int .i64 y, .int .i64 m] w fun e w' => e = .returned (.tuple #[.int .i64 v, .int .i64 0]) ∧ Below w.heap.size w w' := by
  obtain ⟨hy, hm1, hm2⟩ := (chkM_iff y m).1 hc
  have r1 := Kp.mk (fun w => mcheck_is hc w)
  have r2 := Kp.mk (fun w => starts_is hy w)
  have HB := Kp.mk (Below.refl w.heap.size w)
  have HL := Kp.mk hL
  obtain ⟨k, hk⟩ : ∃ k : Nat, (k : Int) + 1 = m := ⟨(m - 1).toNat, by omega⟩
  subst hk
  have e2 : stF y 12 k = v := by rw [← hv]; unfold stF; rw [if_pos (by omega)]
  have hix := fun w => index_cln (P := Tryd.prog) (f := stF y 12) Tryd.underlying68 Tryd.underlying2 info_i64 (show k < 13 by omega) w
  rw [e2] at hix
  have w1 : IntKind.i64.wrap ((k : Int) + 1 - 1) = (k : Int) := by rw [show (k : Int) + 1 - 1 = k by omega]; exact IntWalk.i64_in _ (by omega)
  have w2 : IntKind.i64.wrap (k : Int) = (k : Int) := IntWalk.i64_in _ (by omega)
  clear e2
  clear hc hv hL hy hm1 hm2
  go_enter Tryd.func23, Tryd.ntmps23
  go_wp2_with fail
  refine (r1.out _).mono ?_
  rintro e w' ⟨rfl, rfl⟩
  go_wp2_with fail
  refine (r2.out _ (HL.out.below HB.out)).mono ?_
  rintro e w' ⟨rfl, hbl⟩
  have HB := Kp.mk (HB.out.trans (hbl.mono HB.out.size))
  clear hbl
  go_wp2_with fail
  go_ret2
  exact ⟨rfl, HB.out⟩
theorem pOf_out {d y : Int} (h0 : -9223372036854775808 ≤ d) (h1 : d ≤ 9223372036854775807) (hd : YearHas y d) (hy : isY y = false) (w : World) (hL : LaidMo w) :
    Calls Tryd.prog 28 #[.int .i64 d] w fun e w' => e = .returned (.tuple #[.int .i64 0, .int .i64 0, .int .i64 6]) ∧ Below w.heap.size w w' := by
  have r1 := Kp.mk (fun w (h : LaidMo w) => of_out h0 h1 hd hy w h.yr)
  have HL := Kp.mk hL
  have HB := Kp.mk (Below.refl w.heap.size w)
  clear h0 h1 hd hy hL
  go_enter Tryd.func28, Tryd.ntmps28
  go_wp2_with fail
  refine (r1.out _ (HL.out.below HB.out)).mono ?_
  rintro e w' ⟨rfl, hbl⟩
  have HB := Kp.mk (HB.out.trans (hbl.mono HB.out.size))
  clear hbl
  go_wp2_with fail
  go_ret3
  exact ⟨rfl, HB.out⟩
/-- a month's first day is at most the day exactly if the month is at most the day's -/
theorem month_le {y m d : Int} (h : MonthHas y m d) (k : Nat) (hk : k < 12) : decide (stF y 12 k ≤ d) = decide ((k : Int) < m) := by
  have e : stF y 12 k = Sm y ((k : Int) + 1) := by unfold stF; rw [if_pos (by omega)]
  rw [e]
  have h0 := h.m0
  have h1 := h.m1
  have h2 := h.lo
  have h3 := h.hi
  by_cases g : (k : Int) < m
  · have := Sm_le (y := y) (show (1 : Int) ≤ (k : Int) + 1 by omega) (show (k : Int) + 1 ≤ m by omega) (show m ≤ 13 by omega)
    rw [decide_eq_true g]; exact decide_eq_true (by omega)
  · have := Sm_le (y := y) (show (1 : Int) ≤ m + 1 by omega) (show m + 1 ≤ (k : Int) + 1 by omega) (show (k : Int) + 1 ≤ 13 by omega)
    rw [decide_eq_false g]; exact decide_eq_false (by omega)
theorem least_step {m : Int} {k : Nat} (g : (k : Int) < m) : (k : Int) + 1 = (if ((k + 1 : Nat) : Int) ≤ m then ((k + 1 : Nat) : Int) else m) := by rw [if_pos (by omega)]; omega
set_option maxHeartbeats 1000000 in
theorem pOf_in {d y m : Int} (h0 : -9223372036854775808 ≤ d) (h1 : d ≤ 9223372036854775807) (hy : isY y = true) (hd : MonthHas y m d) (w : World) (hL : LaidMo w) :
    Calls Tryd.prog 28 #[.int .i64 d] w fun e w' => e = .returned (.tuple #[.int .i64 y, .int .i64 m, .int .i64 0]) ∧ Below w.heap.size w w' := by
  have hm0 := hd.m0
  have hm1 := hd.m1
  have r1 := Kp.mk (fun w (h : LaidMo w) => of_in h0 h1 hd.year hy w h.yr)
  have r2 := Kp.mk (fun w => starts_is hy w)
  have HC := Kp.mk (month_le hd)
  have HL := Kp.mk hL
  have HB := Kp.mk (Below.refl w.heap.size w)
  have HM := Kp.mk (And.intro hm0 hm1)
  clear h0 h1 hd hy hL hm0 hm1
  go_enter Tryd.func28, Tryd.ntmps28
  go_wp2_with fail
  refine (r1.out _ (HL.out.below HB.out)).mono ?_
  rintro e w' ⟨rfl, hbl⟩
  have HB := Kp.mk (HB.out.trans (hbl.mono HB.out.size))
  clear hbl
  go_wp2_with fail
  refine (r2.out _ (HL.out.below HB.out)).mono ?_
  rintro e w' ⟨rfl, hbl⟩
  have HB := Kp.mk (HB.out.trans (hbl.mono HB.out.size))
  clear hbl
  have hsz := Kp.mk HB.out.size
  have HR := Kp.mk (row_new w' 13 (fun _ => 0) 68)
  have HB := Kp.mk (HB.out.alloc HB.out.size (.cells (cln 13 fun _ => 0) 68))
  go_wp2_with (first
    | refine wpList_store_row' rfl 68 (.tmp 6) (.tmp 17) rfl w'.heap.size (cln 13 (stF y 12)) rfl rfl 68 (cln 13 fun _ => 0) HR.out.heap info13 rfl (cln_one _ _) ?_)
  have HR := Kp.mk (HR.out.setRow (stF y 12))
  have HB := Kp.mk (below_setRow HB.out (by have := HL; exact hsz.out) (cln 13 (stF y 12)))
  clear HL r1 r2
  go_loopw [3, 18] (fun b i wr => ∃ k : Nat, k ≤ 12 ∧ i = .int .i64 k ∧ b = .int .i64 (if (k : Int) ≤ m then (k : Int) else m) ∧ Kp (Row wr w'.heap.size 68 13 (stF y 12)) ∧ Kp (Below w.heap.size w wr)) (fun _ i _ => 12 - (intOf i).toNat)
  case atStart => exact ⟨0, by omega, rfl, by rw [if_pos (by have := HM.out; omega)]; rfl, HR, HB⟩
  case round =>
    obtain ⟨k, hk, rfl, rfl, HR, HB⟩ := hrel
    by_cases hlt : k < 12
    · have c1 : wr.cell? ⟨w'.heap.size, k, none⟩ = some (.int .i64 (stF y 12 k)) := HR.out.cell (by omega)
      have t1 := HC.out k hlt
      have w2 : IntKind.i64.wrap ((k : Int) + 1) = (k : Int) + 1 := IntWalk.i64_in _ (by omega)
      by_cases g : (k : Int) < m
      · rw [decide_eq_true g] at t1
        have HS := Kp.mk (least_step g)
        have HU := Kp.mk (show (if (k : Int) ≤ m then (k : Int) else m) = k by rw [if_pos (by omega)])
        clear g hk
        go_wp2_with fail
        go_roundw
        case rel => exact ⟨k + 1, by omega, by go_num, by rw [HS.out], HR, HB⟩
        case measure => simp [intOf]; omega
      · rw [decide_eq_false g] at t1
        have HS := Kp.mk (show (if (k : Int) ≤ m then (k : Int) else m) = (if ((k + 1 : Nat) : Int) ≤ m then ((k + 1 : Nat) : Int) else m) by split <;> split <;> omega)
        clear g hk
        go_wp2_with fail
        go_roundw
        case rel => exact ⟨k + 1, by omega, by go_num, by rw [HS.out], HR, HB⟩
        case measure => simp [intOf]; omega
    · obtain rfl : k = 12 := by omega
      have HE := Kp.mk (show (if ((12 : Nat) : Int) ≤ m then ((12 : Nat) : Int) else m) = m by have := HM.out; split <;> omega)
      rw [HE.out]
      go_wp2_with fail
      go_ret3
      exact ⟨rfl, HB.out⟩

end Go.Proofs.YtnmpejhljdkkgaaDoor
