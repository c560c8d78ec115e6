/-
  DERIVED. CONTRACTS of the reference of layer 4 (years): Is, Leap, Len, Start, Of (later layers call these).
-/
import Derived.Test.YtnmpejhljdkkgaaDoorKp
import Derived.Test.YtnmpejhljdkkgaaDoorYrMath
namespace Go.Proofs.YtnmpejhljdkkgaaDoor
open Go.RowKit

theorem refIs_is {y : Int} {b : Bool} (w : World) (hb : isY y = b) :
    Calls Tryd.prog 19 #[.int .i64 y] w fun e w' => e = .returned (.bool b) ∧ w = w' := by
  unfold isY at hb
  subst hb
  by_cases h1 : -10000000000000000 ≤ y
  · by_cases h2 : y ≤ 10000000000000000
    · go_enter Tryd.func19, Tryd.ntmps19
      go_wp2_with fail
      go_ret
      exact ⟨ret_bool (by simp [h1, h2]), rfl⟩
    · go_enter Tryd.func19, Tryd.ntmps19
      go_wp2_with fail
      go_ret
      exact ⟨ret_bool (by simp; omega), rfl⟩
  · go_enter Tryd.func19, Tryd.ntmps19
    go_wp2_with fail
    go_ret
    exact ⟨ret_bool (by simp; omega), rfl⟩
/-- a remainder's test for 0 -/
theorem rem_zero {a k : Int} (hk : 0 < k) : (Int.tmod a k == 0) = (a % k == 0) ∧ -k < Int.tmod a k ∧ Int.tmod a k < k := by
  rw [tmod_of hk]
  have h1 := Int.emod_nonneg a (show k ≠ 0 by omega)
  have h2 := Int.emod_lt_of_pos a hk
  split
  · exact ⟨rfl, by omega, by omega⟩
  · refine ⟨?_, by omega, by omega⟩
    rw [Bool.eq_iff_iff, beq_iff_eq, beq_iff_eq]
    omega
set_option maxHeartbeats 1000000 in
theorem refLeap_is {y : Int} {b : Bool} (w : World) (hb : leapB y = b) :
    Calls Tryd.prog 30 #[.int .i64 y] w fun e w' => e = .returned (.bool b) ∧ w = w' := by
  have k1 := rem_zero (a := y) (k := 400) (by decide)
  have k2 := rem_zero (a := y) (k := 4) (by decide)
  have k3 := rem_zero (a := y) (k := 100) (by decide)
  obtain ⟨r1, e1⟩ : ∃ r, Int.tmod y 400 = r := ⟨_, rfl⟩
  obtain ⟨r2, e2⟩ : ∃ r, Int.tmod y 4 = r := ⟨_, rfl⟩
  obtain ⟨r3, e3⟩ : ∃ r, Int.tmod y 100 = r := ⟨_, rfl⟩
  rw [e1] at k1
  rw [e2] at k2
  rw [e3] at k3
  have w1 : IntKind.i64.wrap r1 = r1 := IntWalk.i64_in _ (by omega)
  have w2 : IntKind.i64.wrap r2 = r2 := IntWalk.i64_in _ (by omega)
  have w3 : IntKind.i64.wrap r3 = r3 := IntWalk.i64_in _ (by omega)
  unfold leapB at hb
  rw [← k1.1, ← k2.1, show (y % 100 != 0) = !(r3 == 0) by rw [k3.1]; rfl] at hb
  subst hb
  clear k1 k2 k3
  cases t1 : (r1 == 0)
  · cases t2 : (r2 == 0)
    · go_enter Tryd.func30, Tryd.ntmps30
      go_wp2_with fail
      go_ret
      exact ⟨rfl, rfl⟩
    · cases t3 : (r3 == 0)
      · have t4 : (r3 != 0) = true := by unfold bne; rw [t3]; rfl
        go_enter Tryd.func30, Tryd.ntmps30
        go_wp2_with fail
        go_ret
        exact ⟨rfl, rfl⟩
      · have t4 : (r3 != 0) = false := by unfold bne; rw [t3]; rfl
        go_enter Tryd.func30, Tryd.ntmps30
        go_wp2_with fail
        go_ret
        exact ⟨rfl, rfl⟩
  · go_enter Tryd.func30, Tryd.ntmps30
    go_wp2_with fail
    go_ret
    exact ⟨rfl, rfl⟩
theorem refLen_is {y v : Int} (w : World) (hv : lenI y = v) :
    Calls Tryd.prog 21 #[.int .i64 y] w fun e w' => e = .returned (.int .i64 v) ∧ w = w' := by
  obtain ⟨b, hb⟩ : ∃ b, leapB y = b := ⟨_, rfl⟩
  have r1 := Kp.mk (fun w => refLeap_is w hb)
  unfold lenI at hv
  rw [hb] at hv
  subst hv
  clear hb
  cases b
  · go_enter Tryd.func21, Tryd.ntmps21
    go_wp2_with fail
    refine (r1.out _).mono ?_
    rintro e w' ⟨rfl, rfl⟩
    go_wp2_with fail
    go_ret
    exact ⟨rfl, rfl⟩
  · go_enter Tryd.func21, Tryd.ntmps21
    go_wp2_with fail
    refine (r1.out _).mono ?_
    rintro e w' ⟨rfl, rfl⟩
    go_wp2_with fail
    go_ret
    exact ⟨rfl, rfl⟩
/-- a quotient, rounded down, as the reference finds it -/
theorem floor_two {a k : Int} (hk : 0 < k) : (Int.tmod a k < 0 ∧ Int.tdiv a k = a / k + 1) ∨ (¬ Int.tmod a k < 0 ∧ Int.tdiv a k = a / k) := by
  rw [tmod_of hk, tdiv_of hk]
  have h1 := Int.emod_nonneg a (show k ≠ 0 by omega)
  have h2 := Int.emod_lt_of_pos a hk
  by_cases h : 0 ≤ a ∨ a % k = 0
  · rw [if_pos h, if_pos h]; right; exact ⟨by omega, rfl⟩
  · rw [if_neg h, if_neg h]; left; exact ⟨by omega, rfl⟩
theorem Sd_small {k : Int} (h0 : 0 ≤ k) (h1 : k ≤ 400) : 0 ≤ Sd k ∧ Sd k ≤ 146097 := by
  have h2 := Sd_le h0
  have h3 := Sd_le h1
  have h4 : Sd 0 = 0 ∧ Sd 400 = 146097 := by decide
  omega
set_option maxHeartbeats 2000000 in
theorem refStart_is {y v : Int} (w : World) (h0 : -20000000000000000 ≤ y) (h1 : y ≤ 20000000000000000) (hv : Sd y = v) :
    Calls Tryd.prog 20 #[.int .i64 y] w fun e w' => e = .returned (.int .i64 v) ∧ w = w' := by
  obtain ⟨q, hq⟩ : ∃ q, y / 400 = q := ⟨_, rfl⟩
  obtain ⟨r, hr⟩ : ∃ r, y % 400 = r := ⟨_, rfl⟩
  have hy : y = 400 * q + r := by omega
  have hr0 : 0 ≤ r ∧ r < 400 := by omega
  have hv2 : 146097 * q + Sd r = v := by rw [← hv, hy, Sd_400]
  have w1 : IntKind.i64.wrap (q * 146097) = q * 146097 := IntWalk.i64_in _ (by omega)
  have w2 : IntKind.i64.wrap (400 * q) = 400 * q := IntWalk.i64_in _ (by omega)
  have w3 : IntKind.i64.wrap (y - 400 * q) = r := by rw [show y - 400 * q = r by omega]; exact IntWalk.i64_in _ (by omega)
  obtain ⟨tm, htm⟩ : ∃ t, Int.tmod y 400 = t := ⟨_, rfl⟩
  obtain ⟨td, htd⟩ : ∃ t, Int.tdiv y 400 = t := ⟨_, rfl⟩
  have hfl := floor_two (a := y) (k := 400) (by decide)
  have hrem := rem_zero (a := y) (k := 400) (by decide)
  rw [htm, htd, hq] at hfl
  rw [htm] at hrem
  have w4 : IntKind.i64.wrap tm = tm := IntWalk.i64_in _ (by omega)
  have w5 : IntKind.i64.wrap td = td := IntWalk.i64_in _ (by omega)
  have hqb : -50000000000000 ≤ q ∧ q ≤ 50000000000000 := by omega
  have HV := Kp.mk hv2
  have HQ := Kp.mk hqb
  clear hv hv2 hq hr hy hrem
  rcases hfl with ⟨ht, he⟩ | ⟨ht, he⟩
  · have w6 : IntKind.i64.wrap (td - 1) = q := by rw [show td - 1 = q by omega]; exact IntWalk.i64_in _ (by omega)
    clear he hqb h0 h1
    go_enter Tryd.func20, Tryd.ntmps20
    go_wp2_with fail
    go_loop [4, 5] (fun d k => ∃ j : Int, 0 ≤ j ∧ j ≤ r ∧ k = .int .i64 j ∧ d = .int .i64 (146097 * q + Sd j)) (fun _ k => (r - intOf k).toNat)
    case atStart => exact ⟨0, by omega, by omega, rfl, by rw [show Sd 0 = 0 from rfl]; go_num⟩
    case round =>
      obtain ⟨j, hj0, hj1, rfl, rfl⟩ := hrel
      by_cases hlt : j < r
      · have hsd := Sd_small hj0 (show j ≤ 400 by omega)
        have hs2 := Sd_small (show 0 ≤ j + 1 by omega) (show j + 1 ≤ 400 by omega)
        have hss := Sd_succ j
        obtain ⟨l, hl⟩ : ∃ l, lenI j = l := ⟨_, rfl⟩
        rw [hl] at hss
        have r1 := Kp.mk (fun w => refLen_is w hl)
        have w7 : IntKind.i64.wrap (146097 * q + Sd j + l) = 146097 * q + Sd (j + 1) := by rw [show 146097 * q + Sd j + l = 146097 * q + Sd (j + 1) by omega]; exact IntWalk.i64_in _ (by have := HQ.out; omega)
        have w8 : IntKind.i64.wrap (j + 1) = j + 1 := IntWalk.i64_in _ (by omega)
        clear hl hss hsd hs2
        go_wp2_with fail
        refine (r1.out _).mono ?_
        rintro e w' ⟨rfl, rfl⟩
        go_wp2_with fail
        go_round
        case rel => exact ⟨j + 1, by omega, by omega, rfl, rfl⟩
        case measure => simp [intOf]; omega
      · obtain rfl : j = r := by omega
        go_wp2_with fail
        go_ret
        exact ⟨by rw [← HV.out]; rfl, rfl⟩
  · clear hqb h0 h1
    subst he
    go_enter Tryd.func20, Tryd.ntmps20
    go_wp2_with fail
    go_loop [4, 5] (fun d k => ∃ j : Int, 0 ≤ j ∧ j ≤ r ∧ k = .int .i64 j ∧ d = .int .i64 (146097 * td + Sd j)) (fun _ k => (r - intOf k).toNat)
    case atStart => exact ⟨0, by omega, by omega, rfl, by rw [show Sd 0 = 0 from rfl]; go_num⟩
    case round =>
      obtain ⟨j, hj0, hj1, rfl, rfl⟩ := hrel
      by_cases hlt : j < r
      · have hsd := Sd_small hj0 (show j ≤ 400 by omega)
        have hs2 := Sd_small (show 0 ≤ j + 1 by omega) (show j + 1 ≤ 400 by omega)
        have hss := Sd_succ j
        obtain ⟨l, hl⟩ : ∃ l, lenI j = l := ⟨_, rfl⟩
        rw [hl] at hss
        have r1 := Kp.mk (fun w => refLen_is w hl)
        have w7 : IntKind.i64.wrap (146097 * td + Sd j + l) = 146097 * td + Sd (j + 1) := by rw [show 146097 * td + Sd j + l = 146097 * td + Sd (j + 1) by omega]; exact IntWalk.i64_in _ (by have := HQ.out; omega)
        have w8 : IntKind.i64.wrap (j + 1) = j + 1 := IntWalk.i64_in _ (by omega)
        clear hl hss hsd hs2
        go_wp2_with fail
        refine (r1.out _).mono ?_
        rintro e w' ⟨rfl, rfl⟩
        go_wp2_with fail
        go_round
        case rel => exact ⟨j + 1, by omega, by omega, rfl, rfl⟩
        case measure => simp [intOf]; omega
      · obtain rfl : j = r := by omega
        go_wp2_with fail
        go_ret
        exact ⟨by rw [← HV.out]; rfl, rfl⟩
theorem wrap_twice (q d : Int) (h0 : 0 ≤ d - q) (h1 : d - q < 146097) : IntKind.i64.wrap (d - IntKind.i64.wrap q) = d - q := by
  rw [IntKind.wrap_i64, IntKind.wrap_i64]
  omega
set_option maxHeartbeats 2000000 in
theorem refOf_is {d y : Int} {b : Bool} (w : World) (h0 : -9223372036854775808 ≤ d) (h1 : d ≤ 9223372036854775807) (hy : YearHas y d) (hb : isY y = b) :
    Calls Tryd.prog 16 #[.int .i64 d] w fun e w' => e = .returned (.tuple #[.int .i64 y, .bool b]) ∧ w = w' := by
  obtain ⟨q, hq⟩ : ∃ q, d / 146097 = q := ⟨_, rfl⟩
  obtain ⟨r, hr⟩ : ∃ r, d % 146097 = r := ⟨_, rfl⟩
  have hdq : d = 146097 * q + r := by omega
  have hr0 : 0 ≤ r ∧ r < 146097 := by omega
  have w3 : IntKind.i64.wrap (d - IntKind.i64.wrap (q * 146097)) = r := by rw [wrap_twice _ _ (by omega) (by omega)]; omega
  obtain ⟨wq, hwq⟩ : ∃ x, IntKind.i64.wrap (q * 146097) = x := ⟨_, rfl⟩
  rw [hwq] at w3
  obtain ⟨tm, htm⟩ : ∃ t, Int.tmod d 146097 = t := ⟨_, rfl⟩
  obtain ⟨td, htd⟩ : ∃ t, Int.tdiv d 146097 = t := ⟨_, rfl⟩
  have hfl := floor_two (a := d) (k := 146097) (by decide)
  have hrem := rem_zero (a := d) (k := 146097) (by decide)
  rw [htm, htd, hq] at hfl
  rw [htm] at hrem
  have w4 : IntKind.i64.wrap tm = tm := IntWalk.i64_in _ (by omega)
  have w5 : IntKind.i64.wrap td = td := IntWalk.i64_in _ (by omega)
  have HQ := Kp.mk (show -70000000000000 ≤ q ∧ q ≤ 70000000000000 by omega)
  have HR := Kp.mk hr0
  have HD := Kp.mk hdq
  have HY := Kp.mk hy
  have HI := Kp.mk hb
  have hq2 : -70000000000000 ≤ q := HQ.out.1
  clear hq hr hdq hrem hr0 hy hb h0 h1
  rcases hfl with ⟨ht, he⟩ | ⟨ht, he⟩
  · have w6 : IntKind.i64.wrap (td - 1) = q := by rw [show td - 1 = q by omega]; exact IntWalk.i64_in _ (by have := HQ.out; omega)
    clear he hq2
    go_enter Tryd.func16, Tryd.ntmps16
    go_wp2_with fail
    go_loop [5, 6] (fun l k => ∃ j : Int, 0 ≤ j ∧ j < 400 ∧ k = .int .i64 j ∧ l = .int .i64 (r - Sd j) ∧ Kp (Sd j ≤ r)) (fun l _ => (intOf l).toNat)
    case atStart => exact ⟨0, by omega, by omega, rfl, by rw [show Sd 0 = 0 from rfl]; go_num, Kp.mk (by rw [show Sd 0 = 0 from rfl]; exact HR.out.1)⟩
    case round =>
      obtain ⟨j, hj0, hj1, rfl, rfl, HS⟩ := hrel
      have hs0 := HS.out
      have hr1 := HR.out.2
      have hss := Sd_succ j
      have hsd := Sd_small hj0 (show j ≤ 400 by omega)
      have htwo := lenI_two j
      obtain ⟨l, hl⟩ : ∃ l, lenI j = l := ⟨_, rfl⟩
      rw [hl] at hss htwo
      have r1 := Kp.mk (fun w => refLen_is w hl)
      have HL := Kp.mk hss
      obtain ⟨x, hx⟩ : ∃ x, r - Sd j = x := ⟨_, rfl⟩
      have hx2 : 0 ≤ x ∧ x < 146097 := by omega
      rw [hx]
      by_cases hlt : l ≤ x
      · have hj2 : j + 1 < 400 := by
          by_cases e : j + 1 < 400
          · exact e
          · have : Sd (j + 1) = 146097 := by rw [show j + 1 = 400 by omega]; decide
            omega
        have HS2 := Kp.mk (show Sd (j + 1) ≤ r by omega)
        have w7 : IntKind.i64.wrap (x - l) = r - Sd (j + 1) := by rw [show x - l = r - Sd (j + 1) by omega]; exact IntWalk.i64_in _ (by omega)
        have w8 : IntKind.i64.wrap (j + 1) = j + 1 := IntWalk.i64_in _ (by omega)
        have hm : (r - Sd (j + 1)).toNat < x.toNat := by omega
        have HM := Kp.mk hm
        clear hl hss hsd htwo hx hs0 hr1 hx2 hm
        go_wp2_with fail
        refine (r1.out _).mono ?_
        rintro e w' ⟨rfl, rfl⟩
        go_wp2_with fail
        refine (r1.out _).mono ?_
        rintro e w' ⟨rfl, rfl⟩
        go_wp2_with fail
        go_round
        case rel => exact ⟨j + 1, by omega, by omega, rfl, rfl, HS2⟩
        case measure => exact HM.out
      · have hyr : YearHas (400 * q + j) d := by
          refine ⟨?_, ?_⟩
          · rw [Sd_400]; have := HD.out; omega
          · rw [show 400 * q + j + 1 = 400 * q + (j + 1) by omega, Sd_400]; have := HD.out; omega
        have hyy : 400 * q + j = y := year_uniq hyr HY.out
        have w7 : IntKind.i64.wrap (400 * q) = 400 * q := IntWalk.i64_in _ (by have := HQ.out; omega)
        have w8 : IntKind.i64.wrap (400 * q + j) = y := by rw [hyy]; exact IntWalk.i64_in _ (by have := HQ.out; omega)
        have r2 := Kp.mk (fun w => refIs_is w HI.out)
        clear hl hss hsd htwo hx hs0 hr1 hx2 hyr hyy hj0 hj1
        go_wp2_with fail
        refine (r1.out _).mono ?_
        rintro e w' ⟨rfl, rfl⟩
        go_wp2_with fail
        refine (r2.out _).mono ?_
        rintro e w' ⟨rfl, rfl⟩
        go_wp2_with fail
        go_ret2
        exact ⟨rfl, rfl⟩
  · subst he
    clear hq2
    go_enter Tryd.func16, Tryd.ntmps16
    go_wp2_with fail
    go_loop [5, 6] (fun l k => ∃ j : Int, 0 ≤ j ∧ j < 400 ∧ k = .int .i64 j ∧ l = .int .i64 (r - Sd j) ∧ Kp (Sd j ≤ r)) (fun l _ => (intOf l).toNat)
    case atStart => exact ⟨0, by omega, by omega, rfl, by rw [show Sd 0 = 0 from rfl]; go_num, Kp.mk (by rw [show Sd 0 = 0 from rfl]; exact HR.out.1)⟩
    case round =>
      obtain ⟨j, hj0, hj1, rfl, rfl, HS⟩ := hrel
      have hs0 := HS.out
      have hr1 := HR.out.2
      have hss := Sd_succ j
      have hsd := Sd_small hj0 (show j ≤ 400 by omega)
      have htwo := lenI_two j
      obtain ⟨l, hl⟩ : ∃ l, lenI j = l := ⟨_, rfl⟩
      rw [hl] at hss htwo
      have r1 := Kp.mk (fun w => refLen_is w hl)
      have HL := Kp.mk hss
      obtain ⟨x, hx⟩ : ∃ x, r - Sd j = x := ⟨_, rfl⟩
      have hx2 : 0 ≤ x ∧ x < 146097 := by omega
      rw [hx]
      by_cases hlt : l ≤ x
      · have hj2 : j + 1 < 400 := by
          by_cases e : j + 1 < 400
          · exact e
          · have : Sd (j + 1) = 146097 := by rw [show j + 1 = 400 by omega]; decide
            omega
        have HS2 := Kp.mk (show Sd (j + 1) ≤ r by omega)
        have w7 : IntKind.i64.wrap (x - l) = r - Sd (j + 1) := by rw [show x - l = r - Sd (j + 1) by omega]; exact IntWalk.i64_in _ (by omega)
        have w8 : IntKind.i64.wrap (j + 1) = j + 1 := IntWalk.i64_in _ (by omega)
        have hm : (r - Sd (j + 1)).toNat < x.toNat := by omega
        have HM := Kp.mk hm
        clear hl hss hsd htwo hx hs0 hr1 hx2 hm
        go_wp2_with fail
        refine (r1.out _).mono ?_
        rintro e w' ⟨rfl, rfl⟩
        go_wp2_with fail
        refine (r1.out _).mono ?_
        rintro e w' ⟨rfl, rfl⟩
        go_wp2_with fail
        go_round
        case rel => exact ⟨j + 1, by omega, by omega, rfl, rfl, HS2⟩
        case measure => exact HM.out
      · have hyr : YearHas (400 * td + j) d := by
          refine ⟨?_, ?_⟩
          · rw [Sd_400]; have := HD.out; omega
          · rw [show 400 * td + j + 1 = 400 * td + (j + 1) by omega, Sd_400]; have := HD.out; omega
        have hyy : 400 * td + j = y := year_uniq hyr HY.out
        have w7 : IntKind.i64.wrap (400 * td) = 400 * td := IntWalk.i64_in _ (by have := HQ.out; omega)
        have w8 : IntKind.i64.wrap (400 * td + j) = y := by rw [hyy]; exact IntWalk.i64_in _ (by have := HQ.out; omega)
        have r2 := Kp.mk (fun w => refIs_is w HI.out)
        clear hl hss hsd htwo hx hs0 hr1 hx2 hyr hyy hj0 hj1
        go_wp2_with fail
        refine (r1.out _).mono ?_
        rintro e w' ⟨rfl, rfl⟩
        go_wp2_with fail
        refine (r2.out _).mono ?_
        rintro e w' ⟨rfl, rfl⟩
        go_wp2_with fail
        go_ret2
        exact ⟨rfl, rfl⟩
end Go.Proofs.YtnmpejhljdkkgaaDoor
