/-
  DERIVED. CONTRACTS of the reference of layer 5 (months): Add.
-/
import Derived.Test.YtnjhbecmdgjeaaaDoorMoRefs
namespace Go.Proofs.YtnjhbecmdgjeaaaDoor
open Go.RowKit

set_option maxHeartbeats 2000000 in
theorem refMAdd_is {y m k : Int} {b : Bool} (w : World) (hy : isY y = true) (h1 : 1 ≤ m) (h2 : m ≤ 12) (k0 : -9223372036854775808 ≤ k) (k1 : k ≤ 9223372036854775807) (hb : isY (yrI (ixM y m + k)) = b) :
    Calls Tryd.prog 23 #[.int .i64 y, .int .i64 m, .int .i64 k] w fun e w' =>
      e = .returned (.tuple #[.int .i64 (if b then yrI (ixM y m + k) else 0), .int .i64 (if b then moI (ixM y m + k) else 0), .bool b]) ∧ w = w' := by
  have hyr := (isY_iff y).1 hy
  obtain ⟨i, hi⟩ : ∃ i, ixM y m + k = i := ⟨_, rfl⟩
  have hi2 : 12 * y + m - 1 + k = i := by rw [← hi]; rfl
  rw [hi] at hb ⊢
  obtain ⟨q, hq⟩ : ∃ q, Int.tdiv k 12 = q := ⟨_, rfl⟩
  obtain ⟨r, hr⟩ : ∃ r, Int.tmod k 12 = r := ⟨_, rfl⟩
  have hqr : k = 12 * q + r ∧ -12 < r ∧ r < 12 := by
    rw [← hq, ← hr]
    have := rem_zero (a := k) (k := 12) (by decide)
    have := Int.mul_tdiv_add_tmod k 12
    omega
  have w1 : IntKind.i64.wrap q = q := IntWalk.i64_in _ (by omega)
  have w2 : IntKind.i64.wrap r = r := IntWalk.i64_in _ (by omega)
  have w3 : IntKind.i64.wrap (y + q) = y + q := IntWalk.i64_in _ (by omega)
  have HI := Kp.mk (show 12 * (y + q) + m - 1 + r = i ∧ -10000000000000000 ≤ y ∧ y ≤ 10000000000000000 ∧ -800000000000000000 ≤ q ∧ q ≤ 800000000000000000 by omega)
  have HB := Kp.mk hb
  have hr0 := hqr.2
  clear hqr hi hi2 hy hyr k0 k1 hb
  go_enter Tryd.func23, Tryd.ntmps23
  go_wp2_with fail
  go_loop [1, 9, 10] (fun a z l => ∃ aa zz ll : Int, 1 ≤ aa ∧ aa ≤ 12 ∧ -12 < ll ∧ ll < 12 ∧ a = .int .i64 aa ∧ z = .int .i64 zz ∧ l = .int .i64 ll ∧ Kp (12 * zz + aa - 1 + ll = i ∧ -900000000000000000 ≤ zz ∧ zz ≤ 900000000000000000 ∧ y + q ≤ zz ∧ zz ≤ y + q + 1)) (fun _ _ l => (intOf l).toNat)
  case atStart => exact ⟨m, y + q, r, h1, h2, hr0.1, hr0.2, rfl, rfl, rfl, Kp.mk (by have := HI.out; omega)⟩
  case round =>
    obtain ⟨aa, zz, ll, ha1, ha2, hl0, hl1, rfl, rfl, rfl, HJ⟩ := hrel
    have hJ := HJ.out
    have hII := HI.out
    by_cases hlt : 0 < ll
    · have w4 : IntKind.i64.wrap (ll - 1) = ll - 1 := IntWalk.i64_in _ (by omega)
      have w5 : IntKind.i64.wrap (aa + 1) = aa + 1 := IntWalk.i64_in _ (by omega)
      have w6 : IntKind.i64.wrap (zz + 1) = zz + 1 := IntWalk.i64_in _ (by omega)
      by_cases h12 : aa = 12
      · have t12 : (12 : Int) < aa + 1 := by omega
        have HJ2 : Kp (12 * (zz + 1) + 1 - 1 + (ll - 1) = i ∧ -900000000000000000 ≤ zz + 1 ∧ zz + 1 ≤ 900000000000000000 ∧ y + q ≤ zz + 1 ∧ zz + 1 ≤ y + q + 1) := Kp.mk (by have := hII.1; omega)
        clear hJ hII h12
        go_wp2_with fail
        go_round
        case rel => exact ⟨1, zz + 1, ll - 1, by omega, by omega, by omega, by omega, rfl, rfl, rfl, HJ2⟩
        case measure => simp [intOf]; omega
      · have t12 : ¬ (12 : Int) < aa + 1 := by omega
        have HJ2 : Kp (12 * zz + (aa + 1) - 1 + (ll - 1) = i ∧ -900000000000000000 ≤ zz ∧ zz ≤ 900000000000000000 ∧ y + q ≤ zz ∧ zz ≤ y + q + 1) := Kp.mk (by omega)
        clear hJ hII h12
        go_wp2_with fail
        go_round
        case rel => exact ⟨aa + 1, zz, ll - 1, by omega, by omega, by omega, by omega, rfl, rfl, rfl, HJ2⟩
        case measure => simp [intOf]; omega
    · have HJ0 : Kp (12 * zz + aa - 1 + ll = i ∧ -900000000000000001 ≤ zz ∧ zz ≤ 900000000000000000 ∧ y + q - 1 ≤ zz ∧ zz ≤ y + q + 1) := Kp.mk (by omega)
      clear hJ hII
      go_wp2_with fail
      go_loop [1, 9, 10] (fun a z l => ∃ aa zz ll : Int, 1 ≤ aa ∧ aa ≤ 12 ∧ -12 < ll ∧ ll ≤ 0 ∧ a = .int .i64 aa ∧ z = .int .i64 zz ∧ l = .int .i64 ll ∧ Kp (12 * zz + aa - 1 + ll = i ∧ -900000000000000001 ≤ zz ∧ zz ≤ 900000000000000000 ∧ y + q - 1 ≤ zz ∧ zz ≤ y + q + 1)) (fun _ _ l => (0 - intOf l).toNat)
      case atStart => exact ⟨aa, zz, ll, ha1, ha2, hl0, by omega, rfl, rfl, rfl, HJ0⟩
      case round =>
        obtain ⟨aa, zz, ll, ha1, ha2, hl0, hl1, rfl, rfl, rfl, HJ⟩ := hrel
        have hJ := HJ.out
        have hII := HI.out
        by_cases hlt2 : ll < 0
        · have w4 : IntKind.i64.wrap (ll + 1) = ll + 1 := IntWalk.i64_in _ (by omega)
          have w5 : IntKind.i64.wrap (aa - 1) = aa - 1 := IntWalk.i64_in _ (by omega)
          have w6 : IntKind.i64.wrap (zz - 1) = zz - 1 := IntWalk.i64_in _ (by omega)
          by_cases h12 : aa = 1
          · have t12 : aa - 1 < (1 : Int) := by omega
            have HJ2 : Kp (12 * (zz - 1) + 12 - 1 + (ll + 1) = i ∧ -900000000000000001 ≤ zz - 1 ∧ zz - 1 ≤ 900000000000000000 ∧ y + q - 1 ≤ zz - 1 ∧ zz - 1 ≤ y + q + 1) := Kp.mk (by have := hII.1; omega)
            clear hJ hII h12
            go_wp2_with fail
            go_round
            case rel => exact ⟨12, zz - 1, ll + 1, by omega, by omega, by omega, by omega, rfl, rfl, rfl, HJ2⟩
            case measure => simp [intOf]; omega
          · have t12 : ¬ aa - 1 < (1 : Int) := by omega
            have HJ2 : Kp (12 * zz + (aa - 1) - 1 + (ll + 1) = i ∧ -900000000000000001 ≤ zz ∧ zz ≤ 900000000000000000 ∧ y + q - 1 ≤ zz ∧ zz ≤ y + q + 1) := Kp.mk (by omega)
            clear hJ hII h12
            go_wp2_with fail
            go_round
            case rel => exact ⟨aa - 1, zz, ll + 1, by omega, by omega, by omega, by omega, rfl, rfl, rfl, HJ2⟩
            case measure => simp [intOf]; omega
        · obtain rfl : ll = 0 := by omega
          have hz : zz = yrI i ∧ aa = moI i := by
            have := of_ix (y := zz) ha1 ha2
            rw [show ixM zz aa = i by unfold ixM; omega] at this
            exact ⟨this.1.symm, this.2.symm⟩
          have r1 := Kp.mk (fun w => refIs_is w HB.out)
          rw [← hz.1] at r1
          have HZ := Kp.mk hz
          clear hJ hII hz
          cases b
          · go_wp2_with fail
            refine (r1.out _).mono ?_
            rintro e w' ⟨rfl, rfl⟩
            go_wp2_with fail
            go_ret3
            exact ⟨rfl, rfl⟩
          · go_wp2_with fail
            refine (r1.out _).mono ?_
            rintro e w' ⟨rfl, rfl⟩
            go_wp2_with fail
            go_ret3
            exact ⟨by rw [← HZ.out.1, ← HZ.out.2]; rfl, rfl⟩
end Go.Proofs.YtnjhbecmdgjeaaaDoor
