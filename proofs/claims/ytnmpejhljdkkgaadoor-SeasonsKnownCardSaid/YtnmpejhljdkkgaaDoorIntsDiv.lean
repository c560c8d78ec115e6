/-
  DERIVED. CONTRACTS of package ints that later layers call: quotients and remainders.
-/
import Derived.Test.YtnmpejhljdkkgaaDoorKp
import Derived.Test.YtnmpejhljdkkgaaDoorMath
import Derived.Lib.Hide
import Derived.BigQuiet
import Derived.Deep.QuietTactic
namespace Go.Proofs.YtnmpejhljdkkgaaDoor
open Go.RowKit

set_option maxHeartbeats 400000 in
theorem differ_any (a b : Int) (w : World) :
    Calls Tryd.prog 40 #[.int .i64 a, .int .i64 b] w fun e w' => e = .returned (.bool (differB a b)) ∧ w = w' := by
  go_enter Tryd.func40, Tryd.ntmps40
  go_wp2
  go_ret
  exact ⟨ret_bool (by unfold differB; cases decide (a < 0) <;> cases decide (b < 0) <;> rfl), rfl⟩
theorem differ_is {a b : Int} {c : Bool} (h : differB a b = c) (w : World) :
    Calls Tryd.prog 40 #[.int .i64 a, .int .i64 b] w fun e w' => e = .returned (.bool c) ∧ w = w' := h ▸ differ_any a b w
set_option maxHeartbeats 400000 in
theorem mod_any (a b : Int) (w : World) (ha : -9223372036854775808 ≤ a) (ha' : a ≤ 9223372036854775807) (hb : -9223372036854775808 ≤ b) (hb' : b ≤ 9223372036854775807) (h : ¬ b = 0) :
    Calls Tryd.prog 42 #[.int .i64 a, .int .i64 b] w fun e w' => e = .returned (.tuple #[.int .i64 (fmd a b), .int .i64 0]) ∧ w = w' := by
  have hs := tmod_sign a b
  have hm := tmod_abs a b h
  by_cases g : a.tmod b = 0
  · have g1 : (a.tmod b != 0) = false := by simp [g]
    have hf : fmd a b = a.tmod b := by unfold fmd; rw [if_neg (fun c => c.1 g)]
    have HF := Lib.hid hf; clear hf hs hm
    have HG := Lib.hid g; clear g
    go_enter Tryd.func42, Tryd.ntmps42
    go_wp2_with fail
    go_ret2
    exact ⟨by rw [HF.out]; rfl, rfl⟩
  · have g1 : (a.tmod b != 0) = true := by simp [g]
    cases d : differB (a.tmod b) b with
    | true =>
      have hf : fmd a b = a.tmod b + b := by unfold fmd; rw [if_pos ⟨g, d⟩]
      have hr : -9223372036854775808 ≤ a.tmod b + b ∧ a.tmod b + b ≤ 9223372036854775807 := by have := of_differB d; omega
      have HF := Lib.hid hf; clear hf
      have HD := Lib.hid d; clear d
      obtain ⟨hr1, hr2⟩ := hr
      clear hs hm
      go_enter Tryd.func42, Tryd.ntmps42
      go_wp2_with (go_at_call 40; refine (differ_is HD.out _).mono ?_; rintro e w' ⟨rfl, rfl⟩)
      go_ret2
      exact ⟨by rw [HF.out]; rfl, rfl⟩
    | false =>
      have hf : fmd a b = a.tmod b := by unfold fmd; rw [if_neg (by simp [d])]
      have HF := Lib.hid hf; clear hf
      have HD := Lib.hid d; clear d
      clear hs hm
      go_enter Tryd.func42, Tryd.ntmps42
      go_wp2_with (go_at_call 40; refine (differ_is HD.out _).mono ?_; rintro e w' ⟨rfl, rfl⟩)
      go_ret2
      exact ⟨by rw [HF.out]; rfl, rfl⟩
set_option maxHeartbeats 400000 in
theorem div_any (a b : Int) (w : World) (ha : -9223372036854775808 ≤ a) (ha' : a ≤ 9223372036854775807) (h : ¬ b = 0) (hz : ¬ (a = -9223372036854775808 ∧ b = -1)) :
    Calls Tryd.prog 41 #[.int .i64 a, .int .i64 b] w fun e w' => e = .returned (.tuple #[.int .i64 (fdv a b), .int .i64 0]) ∧ w = w' := by
  obtain ⟨hq1, hq2⟩ := tdiv_bound a b ha ha' hz
  have g0 : (b == 0) = false := by simp [h]
  have hz2 : ((a == -9223372036854775808) = true ∧ (b == -1) = false) ∨ (a == -9223372036854775808) = false := by
    by_cases e : a = -9223372036854775808
    · exact .inl ⟨by simp [e], by simpa using fun g => hz ⟨e, g⟩⟩
    · exact .inr (by simp [e])
  clear hz
  by_cases g : a.tmod b = 0
  · have g1 : (a.tmod b != 0) = false := by simp [g]
    have hf : fdv a b = a.tdiv b := by unfold fdv; rw [if_neg (fun c => c.1 g)]
    have HF := Lib.hid hf; clear hf
    have HG := Lib.hid g; clear g
    rcases hz2 with ⟨z1, z2⟩ | z1
    all_goals
      go_enter Tryd.func41, Tryd.ntmps41
      go_wp2_with fail
      go_ret2
      exact ⟨by rw [HF.out]; rfl, rfl⟩
  · have g1 : (a.tmod b != 0) = true := by simp [g]
    have hl := tdiv_less a b ha ha' g
    have hr : -9223372036854775808 ≤ a.tdiv b - 1 ∧ a.tdiv b - 1 ≤ 9223372036854775807 := by omega
    obtain ⟨hr1, hr2⟩ := hr
    clear hl
    cases d : differB a b with
    | true =>
      have hf : fdv a b = a.tdiv b - 1 := by unfold fdv; rw [if_pos ⟨g, d⟩]
      have HF := Lib.hid hf; clear hf
      have HD := Lib.hid d; clear d
      rcases hz2 with ⟨z1, z2⟩ | z1
      all_goals
        go_enter Tryd.func41, Tryd.ntmps41
        go_wp2_with (go_at_call 40; refine (differ_is HD.out _).mono ?_; rintro e w' ⟨rfl, rfl⟩)
        go_ret2
        exact ⟨by rw [HF.out]; rfl, rfl⟩
    | false =>
      have hf : fdv a b = a.tdiv b := by unfold fdv; rw [if_neg (by simp [d])]
      have HF := Lib.hid hf; clear hf
      have HD := Lib.hid d; clear d
      rcases hz2 with ⟨z1, z2⟩ | z1
      all_goals
        go_enter Tryd.func41, Tryd.ntmps41
        go_wp2_with (go_at_call 40; refine (differ_is HD.out _).mono ?_; rintro e w' ⟨rfl, rfl⟩)
        go_ret2
        exact ⟨by rw [HF.out]; rfl, rfl⟩
end Go.Proofs.YtnmpejhljdkkgaaDoor
