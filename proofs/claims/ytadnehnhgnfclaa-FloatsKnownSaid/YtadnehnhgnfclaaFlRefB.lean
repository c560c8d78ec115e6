/-
  DERIVED. CONTRACTS of the reference of layer 2: near, Down, Up.
-/
import Derived.Test.YtadnehnhgnfclaaFlRef
namespace Go.Proofs.Ytadnehnhgnfclaa
open Go.RowKit

/-- a fact kept out of the walk's sight (a structure: no tactic looks through it) -/
structure Kp (p : Prop) : Prop where
  out : p
theorem dw_false (r : Nat) : dw false r = r := by unfold dw; simp
/-- the doublings: x is c * 2^i * U -/
theorem V_small {r c i : Nat} (h : V r = c * 2 ^ i * U) (hc : c ≤ 9007199254740992) (hi : i ≤ 11) : r ≤ 4895412794951729152 := by
  rw [← V_le, V64, h]
  have h1 : c * 2 ^ i ≤ 9007199254740992 * 2 ^ 11 := Nat.mul_le_mul hc (Nat.pow_le_pow_right (by decide) hi)
  have h2 : (9007199254740992 : Nat) * 2 ^ 11 = 18446744073709551616 := by decide
  exact Nat.mul_le_mul_right _ (by omega)
theorem dbl_next {r c i : Nat} (h : V r = c * 2 ^ i * U) (hc : c ≤ 9007199254740992) (hi : i ≤ 10) :
    ∃ r', V r' = c * 2 ^ (i + 1) * U ∧ FloatKind.f64.format.add r r = some r' := by
  obtain ⟨r', hr'⟩ := V_rep' (i + 1 + ex) c hc
  have e : V r' = c * 2 ^ (i + 1) * U := by rw [hr', Nat.pow_add, ← Nat.mul_assoc]; rfl
  refine ⟨r', e, ?_⟩
  have := dbl (r := r) (r' := r') (by rw [e, h, Nat.pow_succ]; generalize 2 ^ i = z; rw [← Nat.mul_assoc c z 2, Nat.mul_comm (c * z) 2, Nat.mul_assoc]) (V_small h hc (by omega))
  rw [dw_false, dw_false] at this
  exact this
theorem half_mod (m j : Nat) : decide (m % 2 ^ (j + 1) ≠ 0) = (decide (m % 2 ^ j ≠ 0) || (m / 2 ^ j % 2 == 1)) := by
  have h := Nat.mod_pow_succ (b := 2) (k := j) (x := m)
  have hp : 0 < 2 ^ j := Nat.two_pow_pos j
  rw [h]
  have h2 : m / 2 ^ j % 2 = 0 ∨ m / 2 ^ j % 2 = 1 := by omega
  rcases h2 with h2 | h2
  · rw [h2]; simp
  · rw [h2]
    simp
theorem half_div (m j : Nat) : m / 2 ^ (j + 1) = m / 2 ^ j / 2 := by rw [Nat.pow_succ, Nat.div_div_eq_div_mul]
theorem start_val {c r : Nat} (h : V r = c * U) (hc : c ≤ 9007199254740992) (hi : r < 9218868437227405312) : floatOfInt .f64 (c : Int) = r := by
  have := ofInt_exact (n := (c : Int)) (g := r) (by simp; omega) (by simpa using h) hi
  show FloatKind.f64.nearest _ = r
  rw [this, show decide ((c : Int) < 0) = false from decide_eq_false (by omega), dw_false]
set_option maxRecDepth 100000 in
set_option maxHeartbeats 1000000 in
theorem near_is {m g r0 : Nat} {up : Bool} (w : World) (hm : m < 18446744073709551616) (h : At g m) (hr : nearG up g m = r0) :
    Calls Try.prog 37 #[.int .u64 m, .bool up] w fun e w' => e = .returned (.float .f64 r0) ∧ w = w' := by
  have HR := Kp.mk hr; clear hr
  have HM := Kp.mk hm; clear hm
  have HA := Kp.mk h; clear h
  have hadd : ∀ x y z, FloatKind.f64.format.add x y = some z → ∀ w, (binOp .add 22 (.float .f64 x) (.float .f64 y)).run Try.prog w = .ok (.float .f64 z) w := fun x y z hz w => run_float_arith w .add 22 .f64 x y z hz
  have HD := Kp.mk hadd; clear hadd
  go_enter Try.func37, Try.ntmps37
  go_wp2
  go_loop [0, 5, 6] (fun v k l => ∃ (j n : Nat) (b : Bool), j ≤ 11 ∧ v = .int .u64 n ∧ k = .int .i64 j ∧ l = .bool b ∧ Kp (n = m / 2 ^ j ∧ b = decide (m % 2 ^ j ≠ 0) ∧ (0 < j → 4503599627370496 ≤ n))) (fun v _ _ => (intOf v).toNat)
  case atStart => exact ⟨0, m, false, by omega, rfl, rfl, rfl, Kp.mk ⟨by simp, by simp [Nat.mod_one], by omega⟩⟩
  case round =>
    obtain ⟨j, n, b, hj, rfl, rfl, rfl, HJ⟩ := hrel
    have hn64 : (n : Int) < 18446744073709551616 := by
      have := HJ.out.1
      have h2 : m / 2 ^ j ≤ m := Nat.div_le_self _ _
      have h3 := HM.out
      omega
    by_cases hlt : (9007199254740992 : Int) ≤ (n : Int)
    · have hj2 : j ≤ 10 := by
        have h1 := HJ.out.1
        apply Nat.le_of_not_lt
        intro c
        have hj11 : j = 11 := by omega
        subst hj11
        have : m / 2 ^ 11 < 9007199254740992 := by
          rw [Nat.div_lt_iff_lt_mul (by decide)]
          have : (9007199254740992 : Nat) * 2 ^ 11 = 18446744073709551616 := by decide
          have hmm := HM.out
          omega
        omega
      clear hj
      have HN := Kp.mk hn64; clear hn64
      have hlb := decide_eq_true hlt
      have HL := Kp.mk hlt; clear hlt
      go_wp2
      all_goals go_round
      case rel => 
        obtain ⟨j1, j2, j3⟩ := HJ.out
        refine ⟨j + 1, n / 2, true, by omega, by first | rfl | (congr 1; simp only [IntKind.wrap_u64]; have := HN.out; omega), by go_num, by simp [*], Kp.mk ⟨by rw [half_div, ← j1], ?_, fun _ => by have := HL.out; omega⟩⟩
        rw [half_mod, ← j2, ← j1]; simp [*]
      case measure => simp only [intOf, IntKind.wrap_u64]; have := HL.out; have := HN.out; omega
      case rel => 
        obtain ⟨j1, j2, j3⟩ := HJ.out
        refine ⟨j + 1, n / 2, (n % 2 == 1), by omega, by first | rfl | (congr 1; simp only [IntKind.wrap_u64]; have := HN.out; omega), by go_num, ?_, Kp.mk ⟨by rw [half_div, ← j1], ?_, fun _ => by have := HL.out; omega⟩⟩
        · congr 1
          have h2 : n % 2 = 0 ∨ n % 2 = 1 := by omega
          have h3 : (n : Int) % 2 = ((n % 2 : Nat) : Int) := by omega
          rw [h3]
          rcases h2 with h2 | h2 <;> rw [h2] <;> rfl
        · rw [half_mod, ← j2, ← j1]; simp [*]
      case measure => simp only [intOf, IntKind.wrap_u64]; have := HL.out; have := HN.out; omega
    · have HN := Kp.mk hn64; clear hn64
      have hlb := decide_eq_false hlt
      have HL := Kp.mk hlt; clear hlt
      go_wp2
      · obtain ⟨j1, j2, j3⟩ := HJ.out
        have hlt2 : n < 9007199254740992 := by have := HL.out; omega
        have hN := near_math up HA.out HM.out (fun h => by have := j3 h; omega) (by rw [← j1]; exact hlt2)
        have hcc : n + (decide (m % 2 ^ j ≠ 0) && up).toNat = n + 1 := by rw [← j2]; simp [*]
        rw [← j1, hcc, HR.out] at hN
        obtain ⟨r, hr⟩ := V_rep' ex (n + 1) (by omega)
        have hrs : V r = (n + 1) * 2 ^ 0 * U := by rw [hr]; simp; rfl
        have hri := V_small hrs (by omega) (by omega)
        have hst := start_val (c := n + 1) (r := r) hr (by omega) (by omega)
        have hw : IntKind.u64.wrap ((n : Int) + 1) = ((n + 1 : Nat) : Int) := by simp only [IntKind.wrap_u64]; omega
        rw [hw, hst]
        have HQ := Kp.mk hN
        have HS := Kp.mk hrs
        have HC := Kp.mk (show n + 1 ≤ 9007199254740992 by omega)
        clear hw hst hri hrs hr hN hcc j1 j2 j3 hlt2 HJ HN hlb HL
        go_loop [7, 8] (fun x i => ∃ i' r' : Nat, i' ≤ j ∧ x = .float .f64 r' ∧ i = .int .i64 i' ∧ Kp (V r' = (n + 1) * 2 ^ i' * U)) (fun _ i => j - (intOf i).toNat)
        case atStart => exact ⟨0, r, by omega, rfl, rfl, HS⟩
        case round =>
          obtain ⟨i', r', hi', rfl, rfl, HV⟩ := hrel
          by_cases hij : i' < j
          · obtain ⟨r'', h1, h2⟩ := dbl_next HV.out HC.out (by omega)
            have hadd := HD.out r' r' r'' h2
            have H1 := Kp.mk h1; clear h1 h2 HV
            go_wp2
            go_round
            case rel => exact ⟨i' + 1, r'', by omega, rfl, by go_num, H1⟩
            case measure => simp [intOf]; omega
          · have hje : i' = j := by omega
            have hv := HV.out
            rw [hje, ← HQ.out] at hv
            have hfin := Kp.mk (V_eq hv)
            clear hv HV hje
            go_wp2
            go_ret
            exact ⟨ret_flt hfin.out, rfl⟩
      · obtain ⟨j1, j2, j3⟩ := HJ.out
        have hlt2 : n < 9007199254740992 := by have := HL.out; omega
        have hN := near_math up HA.out HM.out (fun h => by have := j3 h; omega) (by rw [← j1]; exact hlt2)
        have hcc : n + (decide (m % 2 ^ j ≠ 0) && up).toNat = n := by rw [← j2]; simp [*]
        rw [← j1, hcc, HR.out] at hN
        obtain ⟨r, hr⟩ := V_rep' ex (n) (by omega)
        have hrs : V r = (n) * 2 ^ 0 * U := by rw [hr]; simp; rfl
        have hri := V_small hrs (by omega) (by omega)
        have hst := start_val (c := n) (r := r) hr (by omega) (by omega)
        have hw : (n : Int) = ((n : Nat) : Int) := by rfl
        rw [hw, hst]
        have HQ := Kp.mk hN
        have HS := Kp.mk hrs
        have HC := Kp.mk (show n ≤ 9007199254740992 by omega)
        clear hw hst hri hrs hr hN hcc j1 j2 j3 hlt2 HJ HN hlb HL
        go_loop [7, 8] (fun x i => ∃ i' r' : Nat, i' ≤ j ∧ x = .float .f64 r' ∧ i = .int .i64 i' ∧ Kp (V r' = (n) * 2 ^ i' * U)) (fun _ i => j - (intOf i).toNat)
        case atStart => exact ⟨0, r, by omega, rfl, rfl, HS⟩
        case round =>
          obtain ⟨i', r', hi', rfl, rfl, HV⟩ := hrel
          by_cases hij : i' < j
          · obtain ⟨r'', h1, h2⟩ := dbl_next HV.out HC.out (by omega)
            have hadd := HD.out r' r' r'' h2
            have H1 := Kp.mk h1; clear h1 h2 HV
            go_wp2
            go_round
            case rel => exact ⟨i' + 1, r'', by omega, rfl, by go_num, H1⟩
            case measure => simp [intOf]; omega
          · have hje : i' = j := by omega
            have hv := HV.out
            rw [hje, ← HQ.out] at hv
            have hfin := Kp.mk (V_eq hv)
            clear hv HV hje
            go_wp2
            go_ret
            exact ⟨ret_flt hfin.out, rfl⟩
      · obtain ⟨j1, j2, j3⟩ := HJ.out
        have hlt2 : n < 9007199254740992 := by have := HL.out; omega
        have hN := near_math up HA.out HM.out (fun h => by have := j3 h; omega) (by rw [← j1]; exact hlt2)
        have hcc : n + (decide (m % 2 ^ j ≠ 0) && up).toNat = n := by rw [← j2]; simp [*]
        rw [← j1, hcc, HR.out] at hN
        obtain ⟨r, hr⟩ := V_rep' ex (n) (by omega)
        have hrs : V r = (n) * 2 ^ 0 * U := by rw [hr]; simp; rfl
        have hri := V_small hrs (by omega) (by omega)
        have hst := start_val (c := n) (r := r) hr (by omega) (by omega)
        have hw : (n : Int) = ((n : Nat) : Int) := by rfl
        rw [hw, hst]
        have HQ := Kp.mk hN
        have HS := Kp.mk hrs
        have HC := Kp.mk (show n ≤ 9007199254740992 by omega)
        clear hw hst hri hrs hr hN hcc j1 j2 j3 hlt2 HJ HN hlb HL
        go_loop [7, 8] (fun x i => ∃ i' r' : Nat, i' ≤ j ∧ x = .float .f64 r' ∧ i = .int .i64 i' ∧ Kp (V r' = (n) * 2 ^ i' * U)) (fun _ i => j - (intOf i).toNat)
        case atStart => exact ⟨0, r, by omega, rfl, rfl, HS⟩
        case round =>
          obtain ⟨i', r', hi', rfl, rfl, HV⟩ := hrel
          by_cases hij : i' < j
          · obtain ⟨r'', h1, h2⟩ := dbl_next HV.out HC.out (by omega)
            have hadd := HD.out r' r' r'' h2
            have H1 := Kp.mk h1; clear h1 h2 HV
            go_wp2
            go_round
            case rel => exact ⟨i' + 1, r'', by omega, rfl, by go_num, H1⟩
            case measure => simp [intOf]; omega
          · have hje : i' = j := by omega
            have hv := HV.out
            rw [hje, ← HQ.out] at hv
            have hfin := Kp.mk (V_eq hv)
            clear hv HV hje
            go_wp2
            go_ret
            exact ⟨ret_flt hfin.out, rfl⟩
end Go.Proofs.Ytadnehnhgnfclaa
