/-
  DERIVED. CONTRACTS of the reference of layer 4 (years): Leaps; of the statements' own functions.
-/
import Derived.Test.YtdjcpobnbjeohaaDoorYrRefs
namespace Go.Proofs.YtdjcpobnbjeohaaDoor
open Go.RowKit

set_option maxHeartbeats 2000000 in
theorem refLeaps_is {a b v : Int} (w : World) (ha : isY a = true) (hb : isY b = true) (hv : (if b < a then 0 else Lp (b + 1) - Lp a) = v) :
    Calls Tryd.prog 22 #[.int .i64 a, .int .i64 b] w fun e w' => e = .returned (.int .i64 v) ∧ w = w' := by
  rw [isY_iff] at ha hb
  by_cases hlt : b < a
  · rw [if_pos hlt] at hv
    subst hv
    clear ha hb
    go_enter Tryd.func22, Tryd.ntmps22
    go_wp2_with fail
    go_ret
    exact ⟨rfl, rfl⟩
  · rw [if_neg hlt] at hv
    obtain ⟨n, hn⟩ : ∃ n, (b - a) / 400 = n := ⟨_, rfl⟩
    have w1 : IntKind.i64.wrap (b - a) = b - a := IntWalk.i64_in _ (by omega)
    have w2 : Int.tdiv (b - a) 400 = n := by rw [Int.tdiv_eq_ediv_of_nonneg (by omega)]; exact hn
    have w3 : IntKind.i64.wrap n = n := IntWalk.i64_in _ (by omega)
    have w4 : IntKind.i64.wrap (97 * n) = 97 * n := IntWalk.i64_in _ (by omega)
    have w5 : IntKind.i64.wrap (400 * n) = 400 * n := IntWalk.i64_in _ (by omega)
    have w6 : IntKind.i64.wrap (a + 400 * n) = a + 400 * n := IntWalk.i64_in _ (by omega)
    have hl0 : Lp (a + 400 * n) = 97 * n + Lp a := by rw [Int.add_comm a, Lp_400]
    have hn0 : 0 ≤ n := by omega
    have hn1 : a + 400 * n ≤ b := by omega
    have HAB := Kp.mk (And.intro ha (And.intro hb (show n ≤ 100000000000000 by omega)))
    have HV := Kp.mk hv
    clear ha hb hv hn
    go_enter Tryd.func22, Tryd.ntmps22
    go_wp2_with fail
    go_loop [6, 7] (fun m y => ∃ j : Int, a + 400 * n ≤ j ∧ j ≤ b + 1 ∧ y = .int .i64 j ∧ m = .int .i64 (Lp j - Lp a)) (fun _ y => (b + 1 - intOf y).toNat)
    case atStart => exact ⟨a + 400 * n, by omega, by omega, rfl, by rw [hl0]; go_num⟩
    case round =>
      obtain ⟨j, hj0, hj1, rfl, rfl⟩ := hrel
      by_cases hjb : j ≤ b
      · obtain ⟨c, hc⟩ : ∃ c, leapB j = c := ⟨_, rfl⟩
        have r1 := Kp.mk (fun w => refLeap_is w hc)
        have hls := Lp_succ j
        rw [hc] at hls
        have h1 := Lp_le (show a ≤ j by omega)
        have h2 : Lp j ≤ Lp (b + 1) := Lp_le (by omega)
        have h3 : Lp (b + 1) - Lp a ≤ 20000000000000000 := by have := HAB.out; unfold Lp; omega
        have w8 : IntKind.i64.wrap (j + 1) = j + 1 := IntWalk.i64_in _ (by have := HAB.out; omega)
        cases c
        · have e7 : Lp j - Lp a = Lp (j + 1) - Lp a := by rw [hls]; simp
          have E7 := Kp.mk e7
          clear hc hls h1 h2 h3 e7
          go_wp2_with fail
          refine (r1.out _).mono ?_
          rintro e w' ⟨rfl, rfl⟩
          go_wp2_with fail
          go_round
          case rel => exact ⟨j + 1, by omega, by omega, rfl, by rw [E7.out]⟩
          case measure => simp [intOf]; omega
        · have e7 : IntKind.i64.wrap (Lp j - Lp a + 1) = Lp (j + 1) - Lp a := by rw [hls]; simp only [if_true]; rw [show Lp j - Lp a + 1 = Lp j + 1 - Lp a by omega]; exact IntWalk.i64_in _ (by omega)
          clear hc hls h1 h2 h3
          go_wp2_with fail
          refine (r1.out _).mono ?_
          rintro e w' ⟨rfl, rfl⟩
          go_wp2_with fail
          go_round
          case rel => exact ⟨j + 1, by omega, by omega, rfl, rfl⟩
          case measure => simp [intOf]; omega
      · obtain rfl : j = b + 1 := by omega
        go_wp2_with fail
        go_ret
        exact ⟨by rw [← HV.out]; rfl, rfl⟩
/-! the statements' own functions -/
def numB (n e want : Int) : Bool := n == want && e == 0
def badB (n e : Int) : Bool := n == 0 && e == 6
theorem num_is {n e want : Int} {b : Bool} (w : World) (h : numB n e want = b) :
    Calls Tryd.prog 17 #[.int .i64 n, .int .i64 e, .int .i64 want] w fun x w' => x = .returned (.bool b) ∧ w = w' := by
  unfold numB at h
  cases g : (n == want)
  · rw [g] at h
    subst h
    go_enter Tryd.func17, Tryd.ntmps17
    go_wp2_with fail
    go_ret
    exact ⟨rfl, rfl⟩
  · rw [g] at h
    subst h
    go_enter Tryd.func17, Tryd.ntmps17
    go_wp2_with fail
    go_ret
    exact ⟨rfl, rfl⟩
theorem bad_is {n e : Int} {b : Bool} (w : World) (h : badB n e = b) :
    Calls Tryd.prog 12 #[.int .i64 n, .int .i64 e] w fun x w' => x = .returned (.bool b) ∧ w = w' := by
  unfold badB at h
  cases g : (n == 0)
  · rw [g] at h
    subst h
    go_enter Tryd.func12, Tryd.ntmps12
    go_wp2_with fail
    go_ret
    exact ⟨rfl, rfl⟩
  · rw [g] at h
    subst h
    go_enter Tryd.func12, Tryd.ntmps12
    go_wp2_with fail
    go_ret
    exact ⟨rfl, rfl⟩
end Go.Proofs.YtdjcpobnbjeohaaDoor
