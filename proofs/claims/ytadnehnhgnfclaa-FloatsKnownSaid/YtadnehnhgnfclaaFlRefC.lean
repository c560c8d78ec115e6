/-
  DERIVED. CONTRACTS of the reference of layer 2: Down, Up.
-/
import Derived.Test.YtadnehnhgnfclaaFlRefB
namespace Go.Proofs.Ytadnehnhgnfclaa
open Go.RowKit

theorem nearG_le {up : Bool} {g m : Nat} (h : At g m) : nearG up g m ≤ 9218868437227405312 := by
  have := h.2.2
  unfold nearG; split <;> omega
theorem neg_pos {r : Nat} (h : r ≤ 9218868437227405312) : Op.negFloat .f64 r = dw true r := by
  have := neg_dw (s := false) (r := r) (by omega)
  rw [dw_false] at this
  exact this
theorem refDown_is {n : Int} {g x : Nat} (w : World) (n1 : -9223372036854775808 ≤ n) (n2 : n ≤ 9223372036854775807) (h : At g n.natAbs) (hx : loOf n g = x) :
    Calls Try.prog 19 #[.int .i64 n] w fun e w' => e = .returned (.float .f64 x) ∧ w = w' := by
  have hS := Kp.mk (fun w => size_is (m := n.natAbs) w n1 n2 rfl)
  have hle := @nearG_le true g n.natAbs h
  have hm : n.natAbs < 18446744073709551616 := by omega
  by_cases hn : n < 0
  · have hR := Kp.mk (fun w => near_is (up := true) w hm h rfl)
    have e := neg_pos hle
    have ex2 : dw true (nearG true g n.natAbs) = x := by
      rw [← hx]; unfold loOf nearG
      by_cases he : V g = n.natAbs * U
      · simp [he, hn]
      · simp [he, hn]
    rw [ex2] at e
    generalize nearG true g n.natAbs = r at *
    generalize n.natAbs = m at *
    have hneg : ∀ w, (Op.unary UnOp.neg (.float .f64 r)).run Try.prog w = .ok (.float .f64 x) w := fun w => by rw [← e]; rfl
    clear e ex2 hle hm h hx n1 n2
    go_enter Try.func19, Try.ntmps19
    go_wp2_with fail
    refine (hS.out _).mono ?_
    rintro e w' ⟨rfl, rfl⟩
    go_wp2_with fail
    refine (hR.out _).mono ?_
    rintro e w' ⟨rfl, rfl⟩
    go_wp2
    go_ret
    exact ⟨rfl, rfl⟩
  · have hR := Kp.mk (fun w => near_is (up := false) w hm h rfl)
    have ex2 : nearG false g n.natAbs = x := by
      rw [← hx]; unfold loOf nearG
      by_cases he : V g = n.natAbs * U
      · simp [he, hn, dw_false]
      · simp [he, hn, dw_false]
    generalize nearG false g n.natAbs = r at *
    generalize n.natAbs = m at *
    have HE := Kp.mk ex2
    clear ex2 hle hm h hx n1 n2
    go_enter Try.func19, Try.ntmps19
    go_wp2_with fail
    refine (hS.out _).mono ?_
    rintro e w' ⟨rfl, rfl⟩
    go_wp2_with fail
    refine (hR.out _).mono ?_
    rintro e w' ⟨rfl, rfl⟩
    go_wp2
    go_ret
    exact ⟨ret_flt HE.out, rfl⟩
theorem refUp_is {n : Int} {g x : Nat} (w : World) (n1 : -9223372036854775808 ≤ n) (n2 : n ≤ 9223372036854775807) (h : At g n.natAbs) (hx : hiOf n g = x) :
    Calls Try.prog 20 #[.int .i64 n] w fun e w' => e = .returned (.float .f64 x) ∧ w = w' := by
  have hS := Kp.mk (fun w => size_is (m := n.natAbs) w n1 n2 rfl)
  have hle := @nearG_le false g n.natAbs h
  have hm : n.natAbs < 18446744073709551616 := by omega
  by_cases hn : n < 0
  · have hR := Kp.mk (fun w => near_is (up := false) w hm h rfl)
    have e := neg_pos hle
    have ex2 : dw true (nearG false g n.natAbs) = x := by
      rw [← hx]; unfold hiOf nearG
      by_cases he : V g = n.natAbs * U
      · simp [he, hn]
      · simp [he, hn]
    rw [ex2] at e
    generalize nearG false g n.natAbs = r at *
    generalize n.natAbs = m at *
    have hneg : ∀ w, (Op.unary UnOp.neg (.float .f64 r)).run Try.prog w = .ok (.float .f64 x) w := fun w => by rw [← e]; rfl
    clear e ex2 hle hm h hx n1 n2
    go_enter Try.func20, Try.ntmps20
    go_wp2_with fail
    refine (hS.out _).mono ?_
    rintro e w' ⟨rfl, rfl⟩
    go_wp2_with fail
    refine (hR.out _).mono ?_
    rintro e w' ⟨rfl, rfl⟩
    go_wp2
    go_ret
    exact ⟨rfl, rfl⟩
  · have hR := Kp.mk (fun w => near_is (up := true) w hm h rfl)
    have ex2 : nearG true g n.natAbs = x := by
      rw [← hx]; unfold hiOf nearG
      by_cases he : V g = n.natAbs * U
      · simp [he, hn, dw_false]
      · simp [he, hn, dw_false]
    generalize nearG true g n.natAbs = r at *
    generalize n.natAbs = m at *
    have HE := Kp.mk ex2
    clear ex2 hle hm h hx n1 n2
    go_enter Try.func20, Try.ntmps20
    go_wp2_with fail
    refine (hS.out _).mono ?_
    rintro e w' ⟨rfl, rfl⟩
    go_wp2_with fail
    refine (hR.out _).mono ?_
    rintro e w' ⟨rfl, rfl⟩
    go_wp2
    go_ret
    exact ⟨ret_flt HE.out, rfl⟩
end Go.Proofs.Ytadnehnhgnfclaa
