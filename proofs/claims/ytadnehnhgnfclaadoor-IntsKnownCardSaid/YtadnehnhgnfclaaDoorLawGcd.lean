/-
  DERIVED. THE WALK of the statement on powers of ten and greatest common divisors.
-/
import Derived.Test.YtadnehnhgnfclaaDoorLives
import Derived.Deep.DeepCutAuto
import Derived.Deep.CutBlock
import Derived.Deep.RegionWith
namespace Go.Proofs.YtadnehnhgnfclaaDoor
open Go.RowKit

theorem gcdv_comm (a b : Int) : gcdv b a = gcdv a b := by unfold gcdv; rw [Int.gcd_comm]
theorem gcd_over (a b : Int) (w : World) (ha : -9223372036854775808 ≤ a) (ha' : a ≤ 9223372036854775807) (hb : -9223372036854775808 ≤ b) (hb' : b ≤ 9223372036854775807) (h : 9223372036854775807 < gcdv a b) :
    Calls Tryd.prog 24 #[.int .i64 a, .int .i64 b] w fun e w' => e = .returned (two 0 15) ∧ Below w.heap.size w w' :=
  gcd_any a b w 0 15 ha ha' hb hb' fun w1 => signed_over2_pos _ h w1
theorem gcd_fits (a b : Int) (w : World) (ha : -9223372036854775808 ≤ a) (ha' : a ≤ 9223372036854775807) (hb : -9223372036854775808 ≤ b) (hb' : b ≤ 9223372036854775807) (h : gcdv a b ≤ 9223372036854775807) :
    Calls Tryd.prog 24 #[.int .i64 a, .int .i64 b] w fun e w' => e = .returned (two (gcdv a b) 0) ∧ Below w.heap.size w w' :=
  gcd_any a b w _ 0 ha ha' hb hb' fun w1 => signed_fits_pos _ (by unfold gcdv; omega) h w1

theorem gcdv_nat (a b : Int) : gcdv a b = ((Nat.gcd a.natAbs b.natAbs : Nat) : Int) := rfl
theorem gcdv_edge (a b : Int) (ha : a = -9223372036854775808 ∨ a = 0) (hb : b = -9223372036854775808 ∨ b = 0) (h : ¬ a = 0 ∨ ¬ b = 0) : gcdv a b = 9223372036854775808 := by
  rcases ha with rfl | rfl <;> rcases hb with rfl | rfl
  · decide
  · decide
  · decide
  · omega
theorem gcdv_le (a b : Int) (ha : -9223372036854775808 ≤ a) (ha' : a ≤ 9223372036854775807) (hb : -9223372036854775808 ≤ b) (hb' : b ≤ 9223372036854775807) (h : (¬ a = -9223372036854775808 ∧ ¬ a = 0) ∨ (¬ b = -9223372036854775808 ∧ ¬ b = 0)) : 1 ≤ gcdv a b ∧ gcdv a b ≤ 9223372036854775807 := by
  rw [gcdv_nat]
  rcases h with ⟨h, g⟩ | ⟨h, g⟩
  · have h1 := Nat.gcd_le_left b.natAbs (show 0 < a.natAbs by omega)
    have h2 := Nat.gcd_pos_of_pos_left b.natAbs (show 0 < a.natAbs by omega)
    omega
  · have h1 := Nat.gcd_le_right a.natAbs (show 0 < b.natAbs by omega)
    have h2 := Nat.gcd_pos_of_pos_right a.natAbs (show 0 < b.natAbs by omega)
    omega
theorem tmod_gcdv (a b : Int) : a.tmod (gcdv a b) = 0 ∧ b.tmod (gcdv a b) = 0 := by
  have h1 : ((Nat.gcd a.natAbs b.natAbs : Nat) : Int) ∣ a := Int.gcd_dvd_left a b
  have h2 : ((Nat.gcd a.natAbs b.natAbs : Nat) : Int) ∣ b := Int.gcd_dvd_right a b
  exact ⟨Int.dvd_iff_tmod_eq_zero.1 h1, Int.dvd_iff_tmod_eq_zero.1 h2⟩
theorem gcdv_one (a b : Int) (h : 1 ≤ gcdv a b) : gcdv (a.tdiv (gcdv a b)) (b.tdiv (gcdv a b)) = 1 := by
  rw [gcdv_nat] at h
  rw [gcdv_nat (a.tdiv (gcdv a b))]
  have e1 : (a.tdiv (gcdv a b)).natAbs = a.natAbs / Nat.gcd a.natAbs b.natAbs := Int.natAbs_tdiv a _
  have e2 : (b.tdiv (gcdv a b)).natAbs = b.natAbs / Nat.gcd a.natAbs b.natAbs := Int.natAbs_tdiv b _
  rw [e1, e2, Nat.gcd_div (Nat.gcd_dvd_left _ _) (Nat.gcd_dvd_right _ _), Nat.div_self (by omega)]
  rfl
theorem tdiv_abs (a g : Int) (h : 1 ≤ g) (ha : -9223372036854775808 ≤ a) (ha' : a ≤ 9223372036854775807) : -9223372036854775808 ≤ a.tdiv g ∧ a.tdiv g ≤ 9223372036854775807 :=
  tdiv_bound a g ha ha' (by omega)

theorem pow10_is (n : Int) (w : World) : ∃ p e : Int, (Calls Tryd.prog 23 #[.int .i64 n] w fun x w' => x = .returned (two p e) ∧ Below w.heap.size w w') ∧ ((n < 0 ∧ p = 0 ∧ e = 1) ∨ (18 < n ∧ p = 0 ∧ e = 15) ∨ (0 ≤ n ∧ n ≤ 18 ∧ p = p10 n.toNat ∧ e = 0)) := by
  by_cases h : n < 0
  · exact ⟨0, 1, to_below (pow10_neg n w h), .inl ⟨h, rfl, rfl⟩⟩
  · by_cases g : 18 < n
    · exact ⟨0, 15, to_below (pow10_much n w g), .inr (.inl ⟨g, rfl, rfl⟩)⟩
    · obtain ⟨k, rfl⟩ := Int.eq_ofNat_of_zero_le (show 0 ≤ n by omega)
      exact ⟨p10 k, 0, to_below (pow10_any k w (by omega)), .inr (.inr ⟨by omega, by omega, by simp, rfl⟩)⟩

set_option maxRecDepth 100000 in
set_option maxHeartbeats 1000000 in
theorem lawGcd_over1 (n : Int) (w : World) (hw : Laid w) (hn : -9223372036854775808 ≤ n) (hn' : n ≤ 9223372036854775807)  :
    Calls Tryd.prog 5 #[.int .i64 (-9223372036854775808), .int .i64 (-9223372036854775808), .int .i64 n] w fun e w' => e = .returned (.bool true) ∧ Below w.heap.size w w' := by
  have HW := Lib.hid hw; clear hw
  obtain ⟨p, x, hc, hx⟩ := pow10_is n w
  have HC := Lib.hid hc; clear hc
  have HX := Lib.hid hx; clear hx
  go_enter Tryd.func5, Tryd.ntmps5
  go_wp2_with fail
  refine HC.out.mono ?_
  rintro e w1 ⟨rfl, hb1⟩
  clear HC
  go_upto_block 0 with fail
  go_cut [9, 10] from 20 to 45 (fun s9 s10 wc => Below w.heap.size w wc)
  case first =>
    rcases HX.out with ⟨h, rfl, rfl⟩ | ⟨h, rfl, rfl⟩ | ⟨h, h', hp, rfl⟩
    · clear HX
      go_wp2_with fail
      refine (fails_same _ _).mono ?_
      rintro e w' ⟨rfl, rfl⟩
      go_wp2_with fail
      go_meet
      exact hb1
    · clear HX
      go_wp2_with fail
      refine (fails_same _ _).mono ?_
      rintro e w' ⟨rfl, rfl⟩
      go_wp2_with fail
      go_meet
      exact hb1
    · clear HX
      obtain ⟨n, rfl⟩ := Int.eq_ofNat_of_zero_le h
      have hp2 : p = p10 n := hp
      clear hp
      subst hp2
      go_wp2_with fail
      go_loop [9, 10] (fun p i => ∃ k : Nat, k ≤ n ∧ i = .int .i64 k ∧ p = .int .i64 (p10 k)) (fun _ i => n - (intOf i).toNat)
      case atStart => exact ⟨0, by omega, rfl, rfl⟩
      case round =>
        obtain ⟨k, hk, rfl, rfl⟩ := hrel
        by_cases hlt : k < n
        · have hs := p10_succ k
          have hbd : -9223372036854775808 ≤ p10 k * 10 ∧ p10 k * 10 ≤ 9223372036854775807 := by have := p10_le (k+1) (by omega); omega
          obtain ⟨hd1, hd2⟩ := hbd
          have HS := Lib.hid hs; clear hs
          go_wp2_with fail
          go_round
          case rel => exact ⟨k + 1, by omega, by go_num, by rw [HS.out]⟩
          case measure => simp [intOf]; omega
        · have e : k = n := by omega
          subst e
          go_wp2_with fail
          refine (gives_same _ _).mono ?_
          rintro e w' ⟨rfl, rfl⟩
          go_wp2_with fail
          go_meet
          exact hb1
  case rest =>
    clear HX hb1 hn hn'
    have hg := gcdv_edge _ _ (.inl rfl) (.inl rfl) (.inl (by decide))
    have hg1 : 9223372036854775807 < gcdv (-9223372036854775808) (-9223372036854775808) := by omega
    have hg2 : 9223372036854775807 < gcdv (-9223372036854775808) (-9223372036854775808) := by rw [gcdv_comm]; omega
    have HG1 := Lib.hid hg1; clear hg1
    have HG2 := Lib.hid hg2; clear hg2
    clear hg
    go_wp2_with fail
    refine (gcd_over _ _ _ (by decide) (by decide) (by decide) (by decide) HG1.out).mono ?_
    rintro e w2 ⟨rfl, hc⟩
    have hb2 := hcut.trans (hc.mono hcut.size); clear hc hcut
    go_wp2_with fail
    refine (gcd_over _ _ _ (by decide) (by decide) (by decide) (by decide) HG2.out).mono ?_
    rintro e w3 ⟨rfl, hc⟩
    have hb3 := hb2.trans (hc.mono hb2.size); clear hc hb2
    go_wp2_with fail
    refine (fails_same _ _).mono ?_
    rintro e w' ⟨rfl, rfl⟩
    go_wp2_with fail
    refine (lives_any _ (HW.out.below hb3)).mono ?_
    rintro e w4 ⟨rfl, hc⟩
    have hb4 := hb3.trans (hc.mono hb3.size); clear hc hb3
    go_wp2_with fail
    go_ret
    exact ⟨rfl, hb4⟩

set_option maxRecDepth 100000 in
set_option maxHeartbeats 1000000 in
theorem lawGcd_over2 (n : Int) (w : World) (hw : Laid w) (hn : -9223372036854775808 ≤ n) (hn' : n ≤ 9223372036854775807)  :
    Calls Tryd.prog 5 #[.int .i64 (-9223372036854775808), .int .i64 0, .int .i64 n] w fun e w' => e = .returned (.bool true) ∧ Below w.heap.size w w' := by
  have HW := Lib.hid hw; clear hw
  obtain ⟨p, x, hc, hx⟩ := pow10_is n w
  have HC := Lib.hid hc; clear hc
  have HX := Lib.hid hx; clear hx
  go_enter Tryd.func5, Tryd.ntmps5
  go_wp2_with fail
  refine HC.out.mono ?_
  rintro e w1 ⟨rfl, hb1⟩
  clear HC
  go_upto_block 0 with fail
  go_cut [9, 10] from 20 to 45 (fun s9 s10 wc => Below w.heap.size w wc)
  case first =>
    rcases HX.out with ⟨h, rfl, rfl⟩ | ⟨h, rfl, rfl⟩ | ⟨h, h', hp, rfl⟩
    · clear HX
      go_wp2_with fail
      refine (fails_same _ _).mono ?_
      rintro e w' ⟨rfl, rfl⟩
      go_wp2_with fail
      go_meet
      exact hb1
    · clear HX
      go_wp2_with fail
      refine (fails_same _ _).mono ?_
      rintro e w' ⟨rfl, rfl⟩
      go_wp2_with fail
      go_meet
      exact hb1
    · clear HX
      obtain ⟨n, rfl⟩ := Int.eq_ofNat_of_zero_le h
      have hp2 : p = p10 n := hp
      clear hp
      subst hp2
      go_wp2_with fail
      go_loop [9, 10] (fun p i => ∃ k : Nat, k ≤ n ∧ i = .int .i64 k ∧ p = .int .i64 (p10 k)) (fun _ i => n - (intOf i).toNat)
      case atStart => exact ⟨0, by omega, rfl, rfl⟩
      case round =>
        obtain ⟨k, hk, rfl, rfl⟩ := hrel
        by_cases hlt : k < n
        · have hs := p10_succ k
          have hbd : -9223372036854775808 ≤ p10 k * 10 ∧ p10 k * 10 ≤ 9223372036854775807 := by have := p10_le (k+1) (by omega); omega
          obtain ⟨hd1, hd2⟩ := hbd
          have HS := Lib.hid hs; clear hs
          go_wp2_with fail
          go_round
          case rel => exact ⟨k + 1, by omega, by go_num, by rw [HS.out]⟩
          case measure => simp [intOf]; omega
        · have e : k = n := by omega
          subst e
          go_wp2_with fail
          refine (gives_same _ _).mono ?_
          rintro e w' ⟨rfl, rfl⟩
          go_wp2_with fail
          go_meet
          exact hb1
  case rest =>
    clear HX hb1 hn hn'
    have hg := gcdv_edge _ _ (.inl rfl) (.inr rfl) (.inl (by decide))
    have hg1 : 9223372036854775807 < gcdv (-9223372036854775808) 0 := by omega
    have hg2 : 9223372036854775807 < gcdv 0 (-9223372036854775808) := by rw [gcdv_comm]; omega
    have HG1 := Lib.hid hg1; clear hg1
    have HG2 := Lib.hid hg2; clear hg2
    clear hg
    go_wp2_with fail
    refine (gcd_over _ _ _ (by decide) (by decide) (by decide) (by decide) HG1.out).mono ?_
    rintro e w2 ⟨rfl, hc⟩
    have hb2 := hcut.trans (hc.mono hcut.size); clear hc hcut
    go_wp2_with fail
    refine (gcd_over _ _ _ (by decide) (by decide) (by decide) (by decide) HG2.out).mono ?_
    rintro e w3 ⟨rfl, hc⟩
    have hb3 := hb2.trans (hc.mono hb2.size); clear hc hb2
    go_wp2_with fail
    refine (fails_same _ _).mono ?_
    rintro e w' ⟨rfl, rfl⟩
    go_wp2_with fail
    refine (lives_any _ (HW.out.below hb3)).mono ?_
    rintro e w4 ⟨rfl, hc⟩
    have hb4 := hb3.trans (hc.mono hb3.size); clear hc hb3
    go_wp2_with fail
    go_ret
    exact ⟨rfl, hb4⟩

set_option maxRecDepth 100000 in
set_option maxHeartbeats 1000000 in
theorem lawGcd_over3 (n : Int) (w : World) (hw : Laid w) (hn : -9223372036854775808 ≤ n) (hn' : n ≤ 9223372036854775807)  :
    Calls Tryd.prog 5 #[.int .i64 0, .int .i64 (-9223372036854775808), .int .i64 n] w fun e w' => e = .returned (.bool true) ∧ Below w.heap.size w w' := by
  have HW := Lib.hid hw; clear hw
  obtain ⟨p, x, hc, hx⟩ := pow10_is n w
  have HC := Lib.hid hc; clear hc
  have HX := Lib.hid hx; clear hx
  go_enter Tryd.func5, Tryd.ntmps5
  go_wp2_with fail
  refine HC.out.mono ?_
  rintro e w1 ⟨rfl, hb1⟩
  clear HC
  go_upto_block 0 with fail
  go_cut [9, 10] from 20 to 45 (fun s9 s10 wc => Below w.heap.size w wc)
  case first =>
    rcases HX.out with ⟨h, rfl, rfl⟩ | ⟨h, rfl, rfl⟩ | ⟨h, h', hp, rfl⟩
    · clear HX
      go_wp2_with fail
      refine (fails_same _ _).mono ?_
      rintro e w' ⟨rfl, rfl⟩
      go_wp2_with fail
      go_meet
      exact hb1
    · clear HX
      go_wp2_with fail
      refine (fails_same _ _).mono ?_
      rintro e w' ⟨rfl, rfl⟩
      go_wp2_with fail
      go_meet
      exact hb1
    · clear HX
      obtain ⟨n, rfl⟩ := Int.eq_ofNat_of_zero_le h
      have hp2 : p = p10 n := hp
      clear hp
      subst hp2
      go_wp2_with fail
      go_loop [9, 10] (fun p i => ∃ k : Nat, k ≤ n ∧ i = .int .i64 k ∧ p = .int .i64 (p10 k)) (fun _ i => n - (intOf i).toNat)
      case atStart => exact ⟨0, by omega, rfl, rfl⟩
      case round =>
        obtain ⟨k, hk, rfl, rfl⟩ := hrel
        by_cases hlt : k < n
        · have hs := p10_succ k
          have hbd : -9223372036854775808 ≤ p10 k * 10 ∧ p10 k * 10 ≤ 9223372036854775807 := by have := p10_le (k+1) (by omega); omega
          obtain ⟨hd1, hd2⟩ := hbd
          have HS := Lib.hid hs; clear hs
          go_wp2_with fail
          go_round
          case rel => exact ⟨k + 1, by omega, by go_num, by rw [HS.out]⟩
          case measure => simp [intOf]; omega
        · have e : k = n := by omega
          subst e
          go_wp2_with fail
          refine (gives_same _ _).mono ?_
          rintro e w' ⟨rfl, rfl⟩
          go_wp2_with fail
          go_meet
          exact hb1
  case rest =>
    clear HX hb1 hn hn'
    have hg := gcdv_edge _ _ (.inr rfl) (.inl rfl) (.inr (by decide))
    have hg1 : 9223372036854775807 < gcdv 0 (-9223372036854775808) := by omega
    have hg2 : 9223372036854775807 < gcdv (-9223372036854775808) 0 := by rw [gcdv_comm]; omega
    have HG1 := Lib.hid hg1; clear hg1
    have HG2 := Lib.hid hg2; clear hg2
    clear hg
    go_wp2_with fail
    refine (gcd_over _ _ _ (by decide) (by decide) (by decide) (by decide) HG1.out).mono ?_
    rintro e w2 ⟨rfl, hc⟩
    have hb2 := hcut.trans (hc.mono hcut.size); clear hc hcut
    go_wp2_with fail
    refine (gcd_over _ _ _ (by decide) (by decide) (by decide) (by decide) HG2.out).mono ?_
    rintro e w3 ⟨rfl, hc⟩
    have hb3 := hb2.trans (hc.mono hb2.size); clear hc hb2
    go_wp2_with fail
    refine (fails_same _ _).mono ?_
    rintro e w' ⟨rfl, rfl⟩
    go_wp2_with fail
    refine (lives_any _ (HW.out.below hb3)).mono ?_
    rintro e w4 ⟨rfl, hc⟩
    have hb4 := hb3.trans (hc.mono hb3.size); clear hc hb3
    go_wp2_with fail
    go_ret
    exact ⟨rfl, hb4⟩

set_option maxRecDepth 100000 in
set_option maxHeartbeats 1000000 in
theorem lawGcd_zero (n : Int) (w : World) (hw : Laid w) (hn : -9223372036854775808 ≤ n) (hn' : n ≤ 9223372036854775807)  :
    Calls Tryd.prog 5 #[.int .i64 0, .int .i64 0, .int .i64 n] w fun e w' => e = .returned (.bool true) ∧ Below w.heap.size w w' := by
  have HW := Lib.hid hw; clear hw
  obtain ⟨p, x, hc, hx⟩ := pow10_is n w
  have HC := Lib.hid hc; clear hc
  have HX := Lib.hid hx; clear hx
  go_enter Tryd.func5, Tryd.ntmps5
  go_wp2_with fail
  refine HC.out.mono ?_
  rintro e w1 ⟨rfl, hb1⟩
  clear HC
  go_upto_block 0 with fail
  go_cut [9, 10] from 20 to 45 (fun s9 s10 wc => Below w.heap.size w wc)
  case first =>
    rcases HX.out with ⟨h, rfl, rfl⟩ | ⟨h, rfl, rfl⟩ | ⟨h, h', hp, rfl⟩
    · clear HX
      go_wp2_with fail
      refine (fails_same _ _).mono ?_
      rintro e w' ⟨rfl, rfl⟩
      go_wp2_with fail
      go_meet
      exact hb1
    · clear HX
      go_wp2_with fail
      refine (fails_same _ _).mono ?_
      rintro e w' ⟨rfl, rfl⟩
      go_wp2_with fail
      go_meet
      exact hb1
    · clear HX
      obtain ⟨n, rfl⟩ := Int.eq_ofNat_of_zero_le h
      have hp2 : p = p10 n := hp
      clear hp
      subst hp2
      go_wp2_with fail
      go_loop [9, 10] (fun p i => ∃ k : Nat, k ≤ n ∧ i = .int .i64 k ∧ p = .int .i64 (p10 k)) (fun _ i => n - (intOf i).toNat)
      case atStart => exact ⟨0, by omega, rfl, rfl⟩
      case round =>
        obtain ⟨k, hk, rfl, rfl⟩ := hrel
        by_cases hlt : k < n
        · have hs := p10_succ k
          have hbd : -9223372036854775808 ≤ p10 k * 10 ∧ p10 k * 10 ≤ 9223372036854775807 := by have := p10_le (k+1) (by omega); omega
          obtain ⟨hd1, hd2⟩ := hbd
          have HS := Lib.hid hs; clear hs
          go_wp2_with fail
          go_round
          case rel => exact ⟨k + 1, by omega, by go_num, by rw [HS.out]⟩
          case measure => simp [intOf]; omega
        · have e : k = n := by omega
          subst e
          go_wp2_with fail
          refine (gives_same _ _).mono ?_
          rintro e w' ⟨rfl, rfl⟩
          go_wp2_with fail
          go_meet
          exact hb1
  case rest =>
    clear HX hb1 hn hn'
    have z0 : gcdv 0 0 ≤ 9223372036854775807 := by decide
    go_wp2_with fail
    refine (gcd_fits 0 0 _ (by decide) (by decide) (by decide) (by decide) (by decide)).mono ?_
    rintro e w2 ⟨rfl, hc⟩
    have hb2 := hcut.trans (hc.mono hcut.size); clear hc hcut
    rw [show gcdv 0 0 = 0 from by decide]
    go_wp2_with fail
    refine (gcd_fits 0 0 _ (by decide) (by decide) (by decide) (by decide) (by decide)).mono ?_
    rintro e w3 ⟨rfl, hc⟩
    have hb3 := hb2.trans (hc.mono hb2.size); clear hc hb2
    rw [show gcdv 0 0 = 0 from by decide]
    go_wp2_with fail
    refine (lives_any _ (HW.out.below hb3)).mono ?_
    rintro e w4 ⟨rfl, hc⟩
    have hb4 := hb3.trans (hc.mono hb3.size); clear hc hb3
    go_wp2_with fail
    go_ret
    exact ⟨rfl, hb4⟩

set_option maxRecDepth 100000 in
set_option maxHeartbeats 1000000 in
theorem lawGcd_normA (a b n : Int) (w : World) (hw : Laid w) (ha : -9223372036854775808 ≤ a) (ha' : a ≤ 9223372036854775807) (hb : -9223372036854775808 ≤ b) (hb' : b ≤ 9223372036854775807) (hn : -9223372036854775808 ≤ n) (hn' : n ≤ 9223372036854775807) (a1 : ¬ a = -9223372036854775808) (a2 : ¬ a = 0) :
    Calls Tryd.prog 5 #[.int .i64 a, .int .i64 b, .int .i64 n] w fun e w' => e = .returned (.bool true) ∧ Below w.heap.size w w' := by
  have HW := Lib.hid hw; clear hw
  obtain ⟨p, x, hc, hx⟩ := pow10_is n w
  have HC := Lib.hid hc; clear hc
  have HX := Lib.hid hx; clear hx
  go_enter Tryd.func5, Tryd.ntmps5
  go_wp2_with fail
  refine HC.out.mono ?_
  rintro e w1 ⟨rfl, hb1⟩
  clear HC
  go_upto_block 0 with fail
  go_cut [9, 10] from 20 to 45 (fun s9 s10 wc => Below w.heap.size w wc)
  case first =>
    rcases HX.out with ⟨h, rfl, rfl⟩ | ⟨h, rfl, rfl⟩ | ⟨h, h', hp, rfl⟩
    · clear HX
      go_wp2_with fail
      refine (fails_same _ _).mono ?_
      rintro e w' ⟨rfl, rfl⟩
      go_wp2_with fail
      go_meet
      exact hb1
    · clear HX
      go_wp2_with fail
      refine (fails_same _ _).mono ?_
      rintro e w' ⟨rfl, rfl⟩
      go_wp2_with fail
      go_meet
      exact hb1
    · clear HX
      obtain ⟨n, rfl⟩ := Int.eq_ofNat_of_zero_le h
      have hp2 : p = p10 n := hp
      clear hp
      subst hp2
      go_wp2_with fail
      go_loop [9, 10] (fun p i => ∃ k : Nat, k ≤ n ∧ i = .int .i64 k ∧ p = .int .i64 (p10 k)) (fun _ i => n - (intOf i).toNat)
      case atStart => exact ⟨0, by omega, rfl, rfl⟩
      case round =>
        obtain ⟨k, hk, rfl, rfl⟩ := hrel
        by_cases hlt : k < n
        · have hs := p10_succ k
          have hbd : -9223372036854775808 ≤ p10 k * 10 ∧ p10 k * 10 ≤ 9223372036854775807 := by have := p10_le (k+1) (by omega); omega
          obtain ⟨hd1, hd2⟩ := hbd
          have HS := Lib.hid hs; clear hs
          go_wp2_with fail
          go_round
          case rel => exact ⟨k + 1, by omega, by go_num, by rw [HS.out]⟩
          case measure => simp [intOf]; omega
        · have e : k = n := by omega
          subst e
          go_wp2_with fail
          refine (gives_same _ _).mono ?_
          rintro e w' ⟨rfl, rfl⟩
          go_wp2_with fail
          go_meet
          exact hb1
  case rest =>
    clear HX hb1 hn hn'
    have hg := gcdv_le a b ha ha' hb hb' (.inl ⟨a1, a2⟩)
    have hm := tmod_gcdv a b
    have h1 := gcdv_one a b hg.1
    have q1 := tdiv_abs a _ hg.1 ha ha'
    have q2 := tdiv_abs b _ hg.1 hb hb'
    have c1 := fun w1 => gcd_fits a b w1 ha ha' hb hb' hg.2
    have c2 := fun w1 => gcd_fits b a w1 hb hb' ha ha' (by rw [gcdv_comm]; exact hg.2)
    rw [gcdv_comm] at c2
    have c3 := fun w1 => gcd_fits (Int.tdiv a (gcdv a b)) (Int.tdiv b (gcdv a b)) w1 q1.1 q1.2 q2.1 q2.2 (by rw [h1]; decide)
    rw [h1] at c3
    generalize gcdv a b = g at *
    have C1 := Lib.hid c1; clear c1
    have C2 := Lib.hid c2; clear c2
    have C3 := Lib.hid c3; clear c3
    have m1 : (Int.tmod a g == 0) = true := by simp [hm.1]
    have m2 : (Int.tmod b g == 0) = true := by simp [hm.2]
    obtain ⟨g1, g2⟩ := hg
    obtain ⟨q11, q12⟩ := q1
    obtain ⟨q21, q22⟩ := q2
    have gz : (g == 0) = false := by simp; omega
    have gn : ¬ g < 0 := by omega
    clear hm h1
    go_wp2_with fail
    refine (C1.out _).mono ?_
    rintro e w2 ⟨rfl, hc⟩
    have hb2 := hcut.trans (hc.mono hcut.size); clear hc hcut
    go_wp2_with fail
    refine (C2.out _).mono ?_
    rintro e w3 ⟨rfl, hc⟩
    have hb3 := hb2.trans (hc.mono hb2.size); clear hc hb2
    have wr1 : IntKind.i64.wrap (Int.tdiv a g) = Int.tdiv a g := IntWalk.i64_in _ (by omega)
    have wr2 : IntKind.i64.wrap (Int.tdiv b g) = Int.tdiv b g := IntWalk.i64_in _ (by omega)
    go_upto_region 25 with fail
    go_cut [13, 14] from 115 to 123 (fun s13 s14 wd => s13 = .int .i64 0 ∧ s14 = .int .i64 1 ∧ Below w.heap.size w wd)
    case first =>
      go_region_with (go_at_call 24; refine (C3.out _).mono ?_; rintro e w4 ⟨rfl, hc⟩)
      all_goals
        go_wp2_with fail
        go_meet
        exact ⟨rfl, rfl, hb3.drew.trans (hc.mono hb3.drew.size)⟩
    case rest =>
      clear hb3 wr1 wr2
      obtain ⟨rfl, rfl, hb4⟩ := hcut
      go_wp2_with fail
      refine (gives_same _ _).mono ?_
      rintro e w' ⟨rfl, rfl⟩
      go_wp2_with fail
      refine (lives_any _ (HW.out.below hb4)).mono ?_
      rintro e w5 ⟨rfl, hc⟩
      have hb5 := hb4.trans (hc.mono hb4.size); clear hc hb4
      go_wp2_with fail
      go_ret
      exact ⟨rfl, hb5⟩

set_option maxRecDepth 100000 in
set_option maxHeartbeats 1000000 in
theorem lawGcd_normB (a b n : Int) (w : World) (hw : Laid w) (ha : -9223372036854775808 ≤ a) (ha' : a ≤ 9223372036854775807) (hb : -9223372036854775808 ≤ b) (hb' : b ≤ 9223372036854775807) (hn : -9223372036854775808 ≤ n) (hn' : n ≤ 9223372036854775807) (e : a = -9223372036854775808) (b1 : ¬ b = -9223372036854775808) (b2 : ¬ b = 0) :
    Calls Tryd.prog 5 #[.int .i64 a, .int .i64 b, .int .i64 n] w fun e w' => e = .returned (.bool true) ∧ Below w.heap.size w w' := by
  have HW := Lib.hid hw; clear hw
  have e1 : (a == -9223372036854775808) = true := by simp [e]
  have e2 : (a == 0) = false := by simp [e]
  clear e
  obtain ⟨p, x, hc, hx⟩ := pow10_is n w
  have HC := Lib.hid hc; clear hc
  have HX := Lib.hid hx; clear hx
  go_enter Tryd.func5, Tryd.ntmps5
  go_wp2_with fail
  refine HC.out.mono ?_
  rintro e w1 ⟨rfl, hb1⟩
  clear HC
  go_upto_block 0 with fail
  go_cut [9, 10] from 20 to 45 (fun s9 s10 wc => Below w.heap.size w wc)
  case first =>
    rcases HX.out with ⟨h, rfl, rfl⟩ | ⟨h, rfl, rfl⟩ | ⟨h, h', hp, rfl⟩
    · clear HX
      go_wp2_with fail
      refine (fails_same _ _).mono ?_
      rintro e w' ⟨rfl, rfl⟩
      go_wp2_with fail
      go_meet
      exact hb1
    · clear HX
      go_wp2_with fail
      refine (fails_same _ _).mono ?_
      rintro e w' ⟨rfl, rfl⟩
      go_wp2_with fail
      go_meet
      exact hb1
    · clear HX
      obtain ⟨n, rfl⟩ := Int.eq_ofNat_of_zero_le h
      have hp2 : p = p10 n := hp
      clear hp
      subst hp2
      go_wp2_with fail
      go_loop [9, 10] (fun p i => ∃ k : Nat, k ≤ n ∧ i = .int .i64 k ∧ p = .int .i64 (p10 k)) (fun _ i => n - (intOf i).toNat)
      case atStart => exact ⟨0, by omega, rfl, rfl⟩
      case round =>
        obtain ⟨k, hk, rfl, rfl⟩ := hrel
        by_cases hlt : k < n
        · have hs := p10_succ k
          have hbd : -9223372036854775808 ≤ p10 k * 10 ∧ p10 k * 10 ≤ 9223372036854775807 := by have := p10_le (k+1) (by omega); omega
          obtain ⟨hd1, hd2⟩ := hbd
          have HS := Lib.hid hs; clear hs
          go_wp2_with fail
          go_round
          case rel => exact ⟨k + 1, by omega, by go_num, by rw [HS.out]⟩
          case measure => simp [intOf]; omega
        · have e : k = n := by omega
          subst e
          go_wp2_with fail
          refine (gives_same _ _).mono ?_
          rintro e w' ⟨rfl, rfl⟩
          go_wp2_with fail
          go_meet
          exact hb1
  case rest =>
    clear HX hb1 hn hn'
    have hg := gcdv_le a b ha ha' hb hb' (.inr ⟨b1, b2⟩)
    have hm := tmod_gcdv a b
    have h1 := gcdv_one a b hg.1
    have q1 := tdiv_abs a _ hg.1 ha ha'
    have q2 := tdiv_abs b _ hg.1 hb hb'
    have c1 := fun w1 => gcd_fits a b w1 ha ha' hb hb' hg.2
    have c2 := fun w1 => gcd_fits b a w1 hb hb' ha ha' (by rw [gcdv_comm]; exact hg.2)
    rw [gcdv_comm] at c2
    have c3 := fun w1 => gcd_fits (Int.tdiv a (gcdv a b)) (Int.tdiv b (gcdv a b)) w1 q1.1 q1.2 q2.1 q2.2 (by rw [h1]; decide)
    rw [h1] at c3
    generalize gcdv a b = g at *
    have C1 := Lib.hid c1; clear c1
    have C2 := Lib.hid c2; clear c2
    have C3 := Lib.hid c3; clear c3
    have m1 : (Int.tmod a g == 0) = true := by simp [hm.1]
    have m2 : (Int.tmod b g == 0) = true := by simp [hm.2]
    obtain ⟨g1, g2⟩ := hg
    obtain ⟨q11, q12⟩ := q1
    obtain ⟨q21, q22⟩ := q2
    have bz : (b == 0) = false := by simp [b2]
    have gz : (g == 0) = false := by simp; omega
    have gn : ¬ g < 0 := by omega
    clear hm h1
    go_wp2_with fail
    refine (C1.out _).mono ?_
    rintro e w2 ⟨rfl, hc⟩
    have hb2 := hcut.trans (hc.mono hcut.size); clear hc hcut
    go_wp2_with fail
    refine (C2.out _).mono ?_
    rintro e w3 ⟨rfl, hc⟩
    have hb3 := hb2.trans (hc.mono hb2.size); clear hc hb2
    have wr1 : IntKind.i64.wrap (Int.tdiv a g) = Int.tdiv a g := IntWalk.i64_in _ (by omega)
    have wr2 : IntKind.i64.wrap (Int.tdiv b g) = Int.tdiv b g := IntWalk.i64_in _ (by omega)
    go_upto_region 25 with fail
    go_cut [13, 14] from 115 to 123 (fun s13 s14 wd => s13 = .int .i64 0 ∧ s14 = .int .i64 1 ∧ Below w.heap.size w wd)
    case first =>
      go_region_with (go_at_call 24; refine (C3.out _).mono ?_; rintro e w4 ⟨rfl, hc⟩)
      all_goals
        go_wp2_with fail
        go_meet
        exact ⟨rfl, rfl, hb3.drew.trans (hc.mono hb3.drew.size)⟩
    case rest =>
      clear hb3 wr1 wr2
      obtain ⟨rfl, rfl, hb4⟩ := hcut
      go_wp2_with fail
      refine (gives_same _ _).mono ?_
      rintro e w' ⟨rfl, rfl⟩
      go_wp2_with fail
      refine (lives_any _ (HW.out.below hb4)).mono ?_
      rintro e w5 ⟨rfl, hc⟩
      have hb5 := hb4.trans (hc.mono hb4.size); clear hc hb4
      go_wp2_with fail
      go_ret
      exact ⟨rfl, hb5⟩

set_option maxRecDepth 100000 in
set_option maxHeartbeats 1000000 in
theorem lawGcd_normC (b n : Int) (w : World) (hw : Laid w) (hb : -9223372036854775808 ≤ b) (hb' : b ≤ 9223372036854775807) (hn : -9223372036854775808 ≤ n) (hn' : n ≤ 9223372036854775807) (b1 : ¬ b = -9223372036854775808) (b2 : ¬ b = 0) :
    Calls Tryd.prog 5 #[.int .i64 0, .int .i64 b, .int .i64 n] w fun e w' => e = .returned (.bool true) ∧ Below w.heap.size w w' := by
  have HW := Lib.hid hw; clear hw
  obtain ⟨p, x, hc, hx⟩ := pow10_is n w
  have HC := Lib.hid hc; clear hc
  have HX := Lib.hid hx; clear hx
  go_enter Tryd.func5, Tryd.ntmps5
  go_wp2_with fail
  refine HC.out.mono ?_
  rintro e w1 ⟨rfl, hb1⟩
  clear HC
  go_upto_block 0 with fail
  go_cut [9, 10] from 20 to 45 (fun s9 s10 wc => Below w.heap.size w wc)
  case first =>
    rcases HX.out with ⟨h, rfl, rfl⟩ | ⟨h, rfl, rfl⟩ | ⟨h, h', hp, rfl⟩
    · clear HX
      go_wp2_with fail
      refine (fails_same _ _).mono ?_
      rintro e w' ⟨rfl, rfl⟩
      go_wp2_with fail
      go_meet
      exact hb1
    · clear HX
      go_wp2_with fail
      refine (fails_same _ _).mono ?_
      rintro e w' ⟨rfl, rfl⟩
      go_wp2_with fail
      go_meet
      exact hb1
    · clear HX
      obtain ⟨n, rfl⟩ := Int.eq_ofNat_of_zero_le h
      have hp2 : p = p10 n := hp
      clear hp
      subst hp2
      go_wp2_with fail
      go_loop [9, 10] (fun p i => ∃ k : Nat, k ≤ n ∧ i = .int .i64 k ∧ p = .int .i64 (p10 k)) (fun _ i => n - (intOf i).toNat)
      case atStart => exact ⟨0, by omega, rfl, rfl⟩
      case round =>
        obtain ⟨k, hk, rfl, rfl⟩ := hrel
        by_cases hlt : k < n
        · have hs := p10_succ k
          have hbd : -9223372036854775808 ≤ p10 k * 10 ∧ p10 k * 10 ≤ 9223372036854775807 := by have := p10_le (k+1) (by omega); omega
          obtain ⟨hd1, hd2⟩ := hbd
          have HS := Lib.hid hs; clear hs
          go_wp2_with fail
          go_round
          case rel => exact ⟨k + 1, by omega, by go_num, by rw [HS.out]⟩
          case measure => simp [intOf]; omega
        · have e : k = n := by omega
          subst e
          go_wp2_with fail
          refine (gives_same _ _).mono ?_
          rintro e w' ⟨rfl, rfl⟩
          go_wp2_with fail
          go_meet
          exact hb1
  case rest =>
    clear HX hb1 hn hn'
    have hg := gcdv_le 0 b (by decide) (by decide) hb hb' (.inr ⟨b1, b2⟩)
    have hm := tmod_gcdv 0 b
    have h1 := gcdv_one 0 b hg.1
    have q1 := tdiv_abs 0 _ hg.1 (by decide) (by decide)
    have q2 := tdiv_abs b _ hg.1 hb hb'
    have c1 := fun w1 => gcd_fits 0 b w1 (by decide) (by decide) hb hb' hg.2
    have c2 := fun w1 => gcd_fits b 0 w1 hb hb' (by decide) (by decide) (by rw [gcdv_comm]; exact hg.2)
    rw [gcdv_comm] at c2
    have c3 := fun w1 => gcd_fits (Int.tdiv 0 (gcdv 0 b)) (Int.tdiv b (gcdv 0 b)) w1 q1.1 q1.2 q2.1 q2.2 (by rw [h1]; decide)
    rw [h1, Int.zero_tdiv] at c3
    rw [Int.zero_tdiv] at q1
    generalize gcdv 0 b = g at *
    have C1 := Lib.hid c1; clear c1
    have C2 := Lib.hid c2; clear c2
    have C3 := Lib.hid c3; clear c3
    have m1 : (Int.tmod 0 g == 0) = true := by simp [hm.1]
    have m2 : (Int.tmod b g == 0) = true := by simp [hm.2]
    obtain ⟨g1, g2⟩ := hg
    obtain ⟨q11, q12⟩ := q1
    obtain ⟨q21, q22⟩ := q2
    have bz : (b == 0) = false := by simp [b2]
    have gz : (g == 0) = false := by simp; omega
    have gn : ¬ g < 0 := by omega
    clear hm h1
    go_wp2_with fail
    refine (C1.out _).mono ?_
    rintro e w2 ⟨rfl, hc⟩
    have hb2 := hcut.trans (hc.mono hcut.size); clear hc hcut
    go_wp2_with fail
    refine (C2.out _).mono ?_
    rintro e w3 ⟨rfl, hc⟩
    have hb3 := hb2.trans (hc.mono hb2.size); clear hc hb2
    have wr2 : IntKind.i64.wrap (Int.tdiv b g) = Int.tdiv b g := IntWalk.i64_in _ (by omega)
    go_upto_region 25 with fail
    go_cut [13, 14] from 115 to 123 (fun s13 s14 wd => s13 = .int .i64 0 ∧ s14 = .int .i64 1 ∧ Below w.heap.size w wd)
    case first =>
      go_region_with (go_at_call 24; refine (C3.out _).mono ?_; rintro e w4 ⟨rfl, hc⟩)
      all_goals
        go_wp2_with fail
        go_meet
        exact ⟨rfl, rfl, hb3.drew.trans (hc.mono hb3.drew.size)⟩
    case rest =>
      clear hb3 wr2
      obtain ⟨rfl, rfl, hb4⟩ := hcut
      go_wp2_with fail
      refine (gives_same _ _).mono ?_
      rintro e w' ⟨rfl, rfl⟩
      go_wp2_with fail
      refine (lives_any _ (HW.out.below hb4)).mono ?_
      rintro e w5 ⟨rfl, hc⟩
      have hb5 := hb4.trans (hc.mono hb4.size); clear hc hb4
      go_wp2_with fail
      go_ret
      exact ⟨rfl, hb5⟩

theorem lawGcd_any (a b n : Int) (w : World) (hw : Laid w) (ha : -9223372036854775808 ≤ a) (ha' : a ≤ 9223372036854775807) (hb : -9223372036854775808 ≤ b) (hb' : b ≤ 9223372036854775807) (hn : -9223372036854775808 ≤ n) (hn' : n ≤ 9223372036854775807) :
    Calls Tryd.prog 5 #[.int .i64 a, .int .i64 b, .int .i64 n] w fun e w' => e = .returned (.bool true) ∧ Below w.heap.size w w' := by
  by_cases a1 : a = -9223372036854775808
  · by_cases b1 : b = -9223372036854775808
    · subst a1; subst b1; exact lawGcd_over1 n w hw hn hn'
    · by_cases b2 : b = 0
      · subst a1; subst b2; exact lawGcd_over2 n w hw hn hn'
      · exact lawGcd_normB a b n w hw ha ha' hb hb' hn hn' a1 b1 b2
  · by_cases a2 : a = 0
    · by_cases b1 : b = -9223372036854775808
      · subst a2; subst b1; exact lawGcd_over3 n w hw hn hn'
      · by_cases b2 : b = 0
        · subst a2; subst b2; exact lawGcd_zero n w hw hn hn'
        · subst a2; exact lawGcd_normC b n w hw hb hb' hn hn' b1 b2
    · exact lawGcd_normA a b n w hw ha ha' hb hb' hn hn' a1 a2
end Go.Proofs.YtadnehnhgnfclaaDoor
