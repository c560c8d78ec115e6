/-
  DERIVED. CONTRACT of the reference of layer 2: Floor.
-/
import Derived.Test.YtadnehnhgnfclaaFlRefC
import Derived.Test.YtadnehnhgnfclaaFlLawNear
namespace Go.Proofs.Ytadnehnhgnfclaa
open Go.RowKit

/-- the whole number m at most x: what the loop asks -/
structure Asks (x : Nat) (m : Int) (lo hi : Nat) (t1 t2 t3 : Bool) : Prop where
  down : ∀ w, Calls Try.prog 19 #[.int .i64 m] w fun e w' => e = .returned (.float .f64 lo) ∧ w = w'
  up : ∀ w, Calls Try.prog 20 #[.int .i64 m] w fun e w' => e = .returned (.float .f64 hi) ∧ w = w'
  a1 : (FloatKind.f64.format.order lo x == some Ordering.lt || FloatKind.f64.format.order lo x == some Ordering.eq) = t1
  a2 : (FloatKind.f64.format.order lo hi == some Ordering.eq) = t2
  a3 : (FloatKind.f64.format.order hi x == some Ordering.lt || FloatKind.f64.format.order hi x == some Ordering.eq) = t3
  all : (t1 && (t2 || t3)) = decide (m * U ≤ sV x)
theorem fLe (a b : Nat) (ha : isNan a = false) (hb : isNan b = false) : (FloatKind.f64.format.order a b == some Ordering.lt || FloatKind.f64.format.order a b == some Ordering.eq) = decide (sV a ≤ sV b) := by
  rw [ord_lt, ord_eq]
  unfold fLt fEq
  rw [ha, hb]
  simp only [Bool.not_false, Bool.true_and]
  have := sV_le a b
  by_cases h : key a < key b
  · simp [h]; omega
  · by_cases h2 : key a = key b
    · simp [h2]; omega
    · simp [h, h2]; omega
theorem asks_of {x : Nat} {m : Int} (hx : isNan x = false) (m1 : -9223372036854775808 ≤ m) (m2 : m ≤ 9223372036854775807) : ∃ lo hi t1 t2 t3, Asks x m lo hi t1 t2 t3 := by
  obtain ⟨g, h⟩ := at_exists m1 m2
  obtain ⟨l1, l2, l3, l4⟩ := lohi_ok h
  obtain ⟨q1, q2⟩ := lo_le h
  refine ⟨loOf m g, hiOf m g, _, _, _, fun w => refDown_is w m1 m2 h rfl, fun w => refUp_is w m1 m2 h rfl, fLe _ _ l3 hx, lohi_eq h, fLe _ _ l4 hx, ?_⟩
  by_cases he : V g = m.natAbs * U
  · have e : hiOf m g = loOf m g := by unfold hiOf loOf; rw [if_pos he, if_pos he]
    rw [e] at q2 ⊢
    rw [decide_eq_true he]
    have : sV (loOf m g) = m * U := by omega
    rw [this]; simp
  · rw [decide_eq_false he]
    have hh : m * U ≤ sV x ↔ sV (hiOf m g) ≤ sV x := ⟨fun c => (sV_le _ _).2 (hi_least h c), fun c => Int.le_trans q2 c⟩
    by_cases c : sV (hiOf m g) ≤ sV x
    · have : sV (loOf m g) ≤ sV x := by omega
      simp [hh, c, this]
    · simp [hh, c]
set_option maxRecDepth 100000 in
set_option maxHeartbeats 1000000 in
theorem refFloor_in {x : Nat} {F : Int} (w : World) (hx : isNan x = false) (h1 : F * U ≤ sV x) (h2 : sV x < (F + 1) * U) (f1 : -9223372036854775808 ≤ F) (f2 : F ≤ 9223372036854775807)
    (t1 : (FloatKind.f64.format.order x 4890909195324358656 == some Ordering.gt || FloatKind.f64.format.order x 4890909195324358656 == some Ordering.eq) = false) (t2 : (FloatKind.f64.format.order x 14114281232179134464 == some Ordering.lt) = false) :
    Calls Try.prog 25 #[.float .f64 x] w fun e w' => e = .returned (.tuple #[.int .i64 F, .bool true]) ∧ w = w' := by
  have hP : ∀ m, m * U ≤ sV x ↔ m ≤ F := fun m => ⟨fun c => Int.not_lt.1 fun c2 => by have := mulU_le (show F + 1 ≤ m by omega); omega, fun c => Int.le_trans (mulU_le c) h1⟩
  have HP := Kp.mk hP
  have HX := Kp.mk hx
  have HF := Kp.mk (And.intro f1 f2)
  clear h1 h2 f1 f2 hx hP
  go_enter Try.func25, Try.ntmps25
  go_wp2
  go_loop [4, 5] (fun v b => ∃ (k : Nat) (n : Int), k ≤ 64 ∧ v = .int .i64 n ∧ b = .int .i64 ((k : Int) - 1) ∧ Kp (-9223372036854775808 ≤ n ∧ n ≤ F ∧ F < n + 2 ^ k)) (fun _ b => (intOf b + 1).toNat)
  case atStart => exact ⟨64, -9223372036854775808, by omega, rfl, rfl, Kp.mk ⟨by omega, HF.out.1, by have := HF.out.2; omega⟩⟩
  case round =>
    obtain ⟨k, n, hk, rfl, rfl, HK⟩ := hrel
    by_cases hk0 : k = 0
    · have hn := HK.out
      rw [hk0] at hn
      have HN := Kp.mk (show n = F by have := hn.2; simp at this; omega)
      clear hn HK
      subst hk0
      go_wp2
      go_ret2
      have hnf := HN.out
      subst hnf
      exact ⟨rfl, rfl⟩
    · obtain ⟨s, hs⟩ : ∃ s : Int, s = 2 ^ (k - 1) := ⟨_, rfl⟩
      have hs2 : 2 * s = 2 ^ k := by rw [hs, show k = (k - 1) + 1 by omega, Int.pow_succ]; simp [Int.mul_comm]
      have hs3 : 1 ≤ s ∧ s ≤ 9223372036854775808 := by
        have a1 : (2 : Nat) ^ (k - 1) ≤ 2 ^ 63 := Nat.pow_le_pow_right (by decide) (by omega)
        have a2 : 0 < (2 : Nat) ^ (k - 1) := Nat.two_pow_pos _
        have a3 : s = ((2 ^ (k - 1) : Nat) : Int) := by rw [hs]; simp
        have a4 : (2 : Nat) ^ 63 = 9223372036854775808 := by decide
        omega
      have HS := Kp.mk (And.intro hs (And.intro hs2 hs3))
      clear hs hs2 hs3
      go_wp2_with fail
      · rename_i hlt
        obtain ⟨hs, hs2, hs3⟩ := HS.out
        obtain ⟨b1, b2, b3⟩ := HK.out
        have hF := HF.out
        rw [← hs2] at b3
        have hlt' : 9223372036854775807 - n < s := by
          rw [← hs] at hlt
          simp only [IntKind.wrap_u64] at hlt
          omega
        have HG := Kp.mk (show -9223372036854775808 ≤ n ∧ n ≤ F ∧ F < n + 2 ^ (k - 1) by rw [← hs]; omega)
        clear hs hs2 hs3 b1 b2 b3 hF hlt hlt'
        go_round
        case rel => exact ⟨k - 1, n, by omega, rfl, by go_num, HG⟩
        case measure => simp [intOf]; omega
      · have hle : IntKind.u64.wrap (2 ^ (k - 1)) ≤ IntKind.u64.wrap (9223372036854775807 - IntKind.u64.wrap n) := by assumption
        obtain ⟨hs, hs2, hs3⟩ := HS.out
        obtain ⟨b1, b2, b3⟩ := HK.out
        have hF := HF.out
        rw [← hs2] at b3
        rw [← hs] at hle ⊢
        have hle' : s ≤ 9223372036854775807 - n := by
          simp only [IntKind.wrap_u64] at hle
          omega
        have hm : wrap64 (IntKind.u64.wrap (IntKind.u64.wrap n + IntKind.u64.wrap s)) = n + s := by
          simp only [IntKind.wrap_u64]; unfold wrap64; omega
        rw [hm]
        obtain ⟨m, hmm⟩ : ∃ m, m = n + s := ⟨_, rfl⟩
        rw [← hmm]
        obtain ⟨lo, hi, c1, c2, c3, A⟩ := asks_of (x := x) (m := m) HX.out (by omega) (by omega)
        have hall := A.all
        rw [decide_eq_decide.2 (HP.out m)] at hall
        have HG := Kp.mk (show (decide (m ≤ F) = true → -9223372036854775808 ≤ m ∧ m ≤ F ∧ F < m + 2 ^ (k - 1)) ∧ (decide (m ≤ F) = false → -9223372036854775808 ≤ n ∧ n ≤ F ∧ F < n + 2 ^ (k - 1)) by
          rw [← hs]; constructor <;> intro h <;> simp at h <;> omega)
        rw [← hall] at HG
        have a1 := A.a1
        have a2 := A.a2
        have a3 := A.a3
        have AD := Kp.mk A.down
        have AU := Kp.mk A.up
        clear hs hs2 hs3 b1 b2 b3 hF hle hle' hm hmm hall A HS HK
        refine (AD.out _).mono ?_
        rintro e w' ⟨rfl, rfl⟩
        cases c1
        · go_wp2
          go_round
          case rel => exact ⟨k - 1, n, by omega, rfl, by go_num, Kp.mk (HG.out.2 rfl)⟩
          case measure => simp [intOf]; omega
        · go_wp2_with fail
          refine (AD.out _).mono ?_
          rintro e w' ⟨rfl, rfl⟩
          go_wp2_with fail
          refine (AU.out _).mono ?_
          rintro e w' ⟨rfl, rfl⟩
          cases c2
          · go_wp2_with fail
            refine (AU.out _).mono ?_
            rintro e w' ⟨rfl, rfl⟩
            cases c3
            · go_wp2
              go_round
              case rel => exact ⟨k - 1, n, by omega, rfl, by go_num, Kp.mk (HG.out.2 rfl)⟩
              case measure => simp [intOf]; omega
            · go_wp2
              go_round
              case rel => exact ⟨k - 1, m, by omega, rfl, by go_num, Kp.mk (HG.out.1 rfl)⟩
              case measure => simp [intOf]; omega
          · go_wp2
            go_round
            case rel => exact ⟨k - 1, m, by omega, rfl, by go_num, Kp.mk (HG.out.1 rfl)⟩
            case measure => simp [intOf]; omega
end Go.Proofs.Ytadnehnhgnfclaa
