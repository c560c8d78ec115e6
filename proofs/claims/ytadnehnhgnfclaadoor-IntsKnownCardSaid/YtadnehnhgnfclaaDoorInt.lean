/-
  DERIVED. CONTRACTS of package ints (layer 1) but for texts and products: differ, magnitude, Mod, Div, Pow10, Add, Sub.
-/
import Derived.Test.YtadnehnhgnfclaaDoorProg
import Derived.Test.YtadnehnhgnfclaaDoorMath
import Derived.WalkKit
import Derived.WalkSpells
import Derived.WalkLawsBesides
import Derived.Lib.Hide
import Derived.BigQuiet
import Derived.Deep.QuietTactic
namespace Go.Proofs.YtadnehnhgnfclaaDoor
open Go.RowKit

theorem ret_int {k : IntKind} {a b : Int} (h : a = b) : Ending.returned (.int k a) = .returned (.int k b) := by rw [h]
theorem ret_bool {a b : Bool} (h : a = b) : Ending.returned (.bool a) = .returned (.bool b) := by rw [h]
theorem ret_two {a b c d : Value} (h : a = c) (g : b = d) : Ending.returned (.tuple #[a, b]) = .returned (.tuple #[c, d]) := by rw [h, g]
theorem bcell {W w1 : World} (hb : Below W.heap.size W w1) : (∀ b o, b < W.heap.size → w1.cell? ⟨b, o, none⟩ = W.cell? ⟨b, o, none⟩) ∧ (∀ b o, b < W.heap.size → w1.frozen? ⟨b, o, none⟩ = W.frozen? ⟨b, o, none⟩) :=
  ⟨fun b o h => hb.cell (p := ⟨b, o, none⟩) h, fun b o h => hb.frozen (p := ⟨b, o, none⟩) h⟩

theorem below1 (w : World) (o1 : Obj) : Below w.heap.size w (w.alloc o1) := (Below.refl _ _).alloc (Nat.le_refl _) _
theorem below2 (w : World) (o1 o2 : Obj) : Below w.heap.size w ((w.alloc o1).alloc o2) := (below1 w o1).alloc (by simp) _
theorem below3 (w : World) (o1 o2 o3 : Obj) : Below w.heap.size w (((w.alloc o1).alloc o2).alloc o3) := (below2 w o1 o2).alloc (by simp; omega) _
theorem below4 (w : World) (o1 o2 o3 o4 : Obj) : Below w.heap.size w ((((w.alloc o1).alloc o2).alloc o3).alloc o4) := (below3 w o1 o2 o3).alloc (by simp; omega) _
def I64 (n : Int) : Prop := -9223372036854775808 ≤ n ∧ n ≤ 9223372036854775807
/-- a pair of a number and an error, as it is returned -/
abbrev two (n e : Int) : Value := .tuple #[.int .i64 n, .int .i64 e]

set_option maxHeartbeats 400000 in
theorem differ_any (a b : Int) (w : World) :
    Calls Tryd.prog 30 #[.int .i64 a, .int .i64 b] w fun e w' => e = .returned (.bool (differB a b)) ∧ w = w' := by
  go_enter Tryd.func30, Tryd.ntmps30
  go_wp2
  go_ret
  exact ⟨ret_bool (by unfold differB; cases decide (a < 0) <;> cases decide (b < 0) <;> rfl), rfl⟩

def mag (n : Int) : Int := n.natAbs
theorem mag_neg {n : Int} (h : n < 0) : mag n = -n := by unfold mag; omega
theorem mag_pos {n : Int} (h : 0 ≤ n) : mag n = n := by unfold mag; omega
theorem mag_0 (n : Int) : 0 ≤ mag n := by unfold mag; omega

set_option maxHeartbeats 400000 in
theorem magnitude_any (n : Int) (w : World) (h0 : -9223372036854775808 ≤ n) (h1 : n ≤ 9223372036854775807) :
    Calls Tryd.prog 38 #[.int .i64 n] w fun e w' => e = .returned (.int .u64 (mag n)) ∧ w = w' := by
  by_cases h : n < 0
  · go_enter Tryd.func38, Tryd.ntmps38
    go_wp2
    go_ret
    exact ⟨ret_int (by rw [mag_neg h]; show IntKind.u64.wrap (-IntKind.u64.wrap n) = -n; simp only [IntKind.wrap_u64]; omega), rfl⟩
  · go_enter Tryd.func38, Tryd.ntmps38
    go_wp2
    go_ret
    exact ⟨ret_int (mag_pos (by omega)).symm, rfl⟩

set_option maxHeartbeats 400000 in
theorem mod_zero (a : Int) (w : World) :
    Calls Tryd.prog 20 #[.int .i64 a, .int .i64 0] w fun e w' => e = .returned (two 0 1) ∧ w = w' := by
  go_enter Tryd.func20, Tryd.ntmps20
  go_wp2
  go_ret2
  exact ⟨rfl, rfl⟩

theorem differ_is {a b : Int} {c : Bool} (h : differB a b = c) (w : World) :
    Calls Tryd.prog 30 #[.int .i64 a, .int .i64 b] w fun e w' => e = .returned (.bool c) ∧ w = w' := h ▸ differ_any a b w

set_option maxHeartbeats 400000 in
theorem mod_any (a b : Int) (w : World) (ha : -9223372036854775808 ≤ a) (ha' : a ≤ 9223372036854775807) (hb : -9223372036854775808 ≤ b) (hb' : b ≤ 9223372036854775807) (h : ¬ b = 0) :
    Calls Tryd.prog 20 #[.int .i64 a, .int .i64 b] w fun e w' => e = .returned (two (fmd a b) 0) ∧ w = w' := by
  have hs := tmod_sign a b
  have hm := tmod_abs a b h
  by_cases g : a.tmod b = 0
  · have g1 : (a.tmod b != 0) = false := by simp [g]
    have hf : fmd a b = a.tmod b := by unfold fmd; rw [if_neg (fun c => c.1 g)]
    have HF := Lib.hid hf; clear hf hs hm
    have HG := Lib.hid g; clear g
    go_enter Tryd.func20, Tryd.ntmps20
    go_wp2_with fail
    go_ret2
    exact ⟨by rw [HF.out]; rfl, rfl⟩
  · have g1 : (a.tmod b != 0) = true := by simp [g]
    cases d : differB (a.tmod b) b with
    | true =>
      have hf : fmd a b = a.tmod b + b := by unfold fmd; rw [if_pos ⟨g, d⟩]
      have hr : -9223372036854775808 ≤ a.tmod b + b ∧ a.tmod b + b ≤ 9223372036854775807 := by have := of_differB d; omega
      have HF := Lib.hid hf; clear hf
      have HD := Lib.hid d; clear d
      obtain ⟨hr1, hr2⟩ := hr
      clear hs hm
      go_enter Tryd.func20, Tryd.ntmps20
      go_wp2_with (go_at_call 30; refine (differ_is HD.out _).mono ?_; rintro e w' ⟨rfl, rfl⟩)
      go_ret2
      exact ⟨by rw [HF.out]; rfl, rfl⟩
    | false =>
      have hf : fmd a b = a.tmod b := by unfold fmd; rw [if_neg (by simp [d])]
      have HF := Lib.hid hf; clear hf
      have HD := Lib.hid d; clear d
      clear hs hm
      go_enter Tryd.func20, Tryd.ntmps20
      go_wp2_with (go_at_call 30; refine (differ_is HD.out _).mono ?_; rintro e w' ⟨rfl, rfl⟩)
      go_ret2
      exact ⟨by rw [HF.out]; rfl, rfl⟩

set_option maxHeartbeats 400000 in
theorem div_zero (a : Int) (w : World) :
    Calls Tryd.prog 19 #[.int .i64 a, .int .i64 0] w fun e w' => e = .returned (two 0 1) ∧ w = w' := by
  go_enter Tryd.func19, Tryd.ntmps19
  go_wp2
  go_ret2
  exact ⟨rfl, rfl⟩
set_option maxHeartbeats 400000 in
theorem div_most (w : World) :
    Calls Tryd.prog 19 #[.int .i64 (-9223372036854775808), .int .i64 (-1)] w fun e w' => e = .returned (two 0 15) ∧ w = w' := by
  go_enter Tryd.func19, Tryd.ntmps19
  go_wp2
  go_ret2
  exact ⟨rfl, rfl⟩
set_option maxHeartbeats 400000 in
theorem div_any (a b : Int) (w : World) (ha : -9223372036854775808 ≤ a) (ha' : a ≤ 9223372036854775807) (h : ¬ b = 0) (hz : ¬ (a = -9223372036854775808 ∧ b = -1)) :
    Calls Tryd.prog 19 #[.int .i64 a, .int .i64 b] w fun e w' => e = .returned (two (fdv a b) 0) ∧ w = w' := by
  obtain ⟨hq1, hq2⟩ := tdiv_bound a b ha ha' hz
  have g0 : (b == 0) = false := by simp [h]
  have hz2 : ((a == -9223372036854775808) = true ∧ (b == -1) = false) ∨ (a == -9223372036854775808) = false := by
    by_cases e : a = -9223372036854775808
    · exact .inl ⟨by simp [e], by simpa using fun g => hz ⟨e, g⟩⟩
    · exact .inr (by simp [e])
  clear hz
  by_cases g : a.tmod b = 0
  · have g1 : (a.tmod b != 0) = false := by simp [g]
    have hf : fdv a b = a.tdiv b := by unfold fdv; rw [if_neg (fun c => c.1 g)]
    have HF := Lib.hid hf; clear hf
    have HG := Lib.hid g; clear g
    rcases hz2 with ⟨z1, z2⟩ | z1
    all_goals
      go_enter Tryd.func19, Tryd.ntmps19
      go_wp2_with fail
      go_ret2
      exact ⟨by rw [HF.out]; rfl, rfl⟩
  · have g1 : (a.tmod b != 0) = true := by simp [g]
    have hl := tdiv_less a b ha ha' g
    have hr : -9223372036854775808 ≤ a.tdiv b - 1 ∧ a.tdiv b - 1 ≤ 9223372036854775807 := by omega
    obtain ⟨hr1, hr2⟩ := hr
    clear hl
    cases d : differB a b with
    | true =>
      have hf : fdv a b = a.tdiv b - 1 := by unfold fdv; rw [if_pos ⟨g, d⟩]
      have HF := Lib.hid hf; clear hf
      have HD := Lib.hid d; clear d
      rcases hz2 with ⟨z1, z2⟩ | z1
      all_goals
        go_enter Tryd.func19, Tryd.ntmps19
        go_wp2_with (go_at_call 30; refine (differ_is HD.out _).mono ?_; rintro e w' ⟨rfl, rfl⟩)
        go_ret2
        exact ⟨by rw [HF.out]; rfl, rfl⟩
    | false =>
      have hf : fdv a b = a.tdiv b := by unfold fdv; rw [if_neg (by simp [d])]
      have HF := Lib.hid hf; clear hf
      have HD := Lib.hid d; clear d
      rcases hz2 with ⟨z1, z2⟩ | z1
      all_goals
        go_enter Tryd.func19, Tryd.ntmps19
        go_wp2_with (go_at_call 30; refine (differ_is HD.out _).mono ?_; rintro e w' ⟨rfl, rfl⟩)
        go_ret2
        exact ⟨by rw [HF.out]; rfl, rfl⟩

set_option maxHeartbeats 400000 in
theorem pow10_neg (n : Int) (w : World) (h : n < 0) :
    Calls Tryd.prog 23 #[.int .i64 n] w fun e w' => e = .returned (two 0 1) ∧ w = w' := by
  go_enter Tryd.func23, Tryd.ntmps23
  go_wp2
  go_ret2
  exact ⟨rfl, rfl⟩
set_option maxHeartbeats 400000 in
theorem pow10_much (n : Int) (w : World) (h : 18 < n) :
    Calls Tryd.prog 23 #[.int .i64 n] w fun e w' => e = .returned (two 0 15) ∧ w = w' := by
  go_enter Tryd.func23, Tryd.ntmps23
  go_wp2
  go_ret2
  exact ⟨rfl, rfl⟩
theorem pow10_le (k : Nat) (h : k ≤ 18) : (1 : Int) ≤ 10 ^ k ∧ (10 : Int) ^ k ≤ 1000000000000000000 := by
  have h1 : (10 : Nat) ^ k ≤ 10 ^ 18 := Nat.pow_le_pow_right (by decide) h
  have h2 : 0 < (10 : Nat) ^ k := Nat.pos_of_ne_zero (by simp)
  have h3 : ((10 ^ k : Nat) : Int) = (10 : Int) ^ k := by simp
  rw [← h3]; omega
def p10 (k : Nat) : Int := 10 ^ k
theorem p10_succ (k : Nat) : p10 (k + 1) = p10 k * 10 := by unfold p10; rw [Int.pow_succ]
theorem p10_le (k : Nat) (h : k ≤ 18) : 1 ≤ p10 k ∧ p10 k ≤ 1000000000000000000 := pow10_le k h
set_option maxHeartbeats 400000 in
theorem pow10_any (n : Nat) (w : World) (h : n ≤ 18) :
    Calls Tryd.prog 23 #[.int .i64 n] w fun e w' => e = .returned (two (p10 n) 0) ∧ w = w' := by
  go_enter Tryd.func23, Tryd.ntmps23
  go_wp2
  go_loop [4, 10] (fun p i => ∃ k : Nat, k ≤ n ∧ i = .int .i64 k ∧ p = .int .i64 (p10 k)) (fun _ i => n - (intOf i).toNat)
  case atStart => exact ⟨0, by omega, rfl, rfl⟩
  case round =>
    obtain ⟨k, hk, rfl, rfl⟩ := hrel
    by_cases hlt : k < n
    · have hs := p10_succ k
      have h1 := p10_le k (by omega)
      have hb : -9223372036854775808 ≤ p10 k * 10 ∧ p10 k * 10 ≤ 9223372036854775807 := by have := p10_le (k+1) (by omega); omega
      obtain ⟨hb1, hb2⟩ := hb
      have HS := Lib.hid hs; clear hs h1
      go_wp2
      go_round
      case rel => exact ⟨k + 1, by omega, by go_num, by rw [HS.out]⟩
      case measure => simp [intOf]; omega
    · have e : k = n := by omega
      have E := Lib.hid e; clear e
      go_wp2
      go_ret2
      exact ⟨by rw [← E.out]; rfl, rfl⟩

set_option maxHeartbeats 400000 in
theorem add_over (p0 p1 p2 p3 : Addr) (a b s : Int) (u : FrameMode) (w : World) (h0 : w.cell? p0 = some (.int .i64 a)) (h1 : w.cell? p1 = some (.int .i64 s)) (h2 : w.cell? p2 = some (.int .i64 b)) (f : w.frozen? p1 = false) (h3 : (w.setCell p1 (.int .i64 0)).cell? p3 = some (.int .i64 0)) (f3 : (w.setCell p1 (.int .i64 0)).frozen? p3 = false) (d1 : differB a s = true) (d2 : differB b s = true) :
    CallsD Tryd.prog 29 #[.pointer (some p0), .pointer (some p1), .pointer (some p2), .pointer (some p3)] u w fun e u' w' => u' = u ∧ (e = .returned (.tuple #[]) ∧ w' = (w.setCell p1 (.int .i64 0)).setCell p3 (.int .i64 15)) := by
  have D1 := Lib.hid d1; clear d1
  have D2 := Lib.hid d2; clear d2
  go_enter_d Tryd.func29, Tryd.ntmps29
  go_wp2_with fail
  refine (differ_is D1.out _).mono ?_
  rintro e w' ⟨rfl, rfl⟩
  go_wp2_with fail
  refine (differ_is D2.out _).mono ?_
  rintro e w' ⟨rfl, rfl⟩
  go_wp2_with fail
  go_end0
  exact ⟨rfl, rfl⟩

set_option maxHeartbeats 400000 in
theorem add_fits1 (p0 p1 p2 p3 : Addr) (a b s : Int) (u : FrameMode) (w : World) (h0 : w.cell? p0 = some (.int .i64 a)) (h1 : w.cell? p1 = some (.int .i64 s)) (_h2 : w.cell? p2 = some (.int .i64 b)) (d1 : differB a s = false) :
    CallsD Tryd.prog 29 #[.pointer (some p0), .pointer (some p1), .pointer (some p2), .pointer (some p3)] u w fun e u' w' => u' = u ∧ (e = .returned (.tuple #[]) ∧ w = w') := by
  have D1 := Lib.hid d1; clear d1
  go_enter_d Tryd.func29, Tryd.ntmps29
  go_wp2_with fail
  refine (differ_is D1.out _).mono ?_
  rintro e w' ⟨rfl, rfl⟩
  go_wp2_with fail
  go_end0
  exact ⟨rfl, rfl⟩

set_option maxHeartbeats 400000 in
theorem add_fits2 (p0 p1 p2 p3 : Addr) (a b s : Int) (u : FrameMode) (w : World) (h0 : w.cell? p0 = some (.int .i64 a)) (h1 : w.cell? p1 = some (.int .i64 s)) (h2 : w.cell? p2 = some (.int .i64 b)) (d1 : differB a s = true) (d2 : differB b s = false) :
    CallsD Tryd.prog 29 #[.pointer (some p0), .pointer (some p1), .pointer (some p2), .pointer (some p3)] u w fun e u' w' => u' = u ∧ (e = .returned (.tuple #[]) ∧ w = w') := by
  have D1 := Lib.hid d1; clear d1
  have D2 := Lib.hid d2; clear d2
  go_enter_d Tryd.func29, Tryd.ntmps29
  go_wp2_with fail
  refine (differ_is D1.out _).mono ?_
  rintro e w' ⟨rfl, rfl⟩
  go_wp2_with fail
  refine (differ_is D2.out _).mono ?_
  rintro e w' ⟨rfl, rfl⟩
  go_wp2_with fail
  go_end0
  exact ⟨rfl, rfl⟩

set_option maxHeartbeats 400000 in
theorem add_out (a b : Int) (w : World) (ha : -9223372036854775808 ≤ a) (ha' : a ≤ 9223372036854775807) (hb : -9223372036854775808 ≤ b) (hb' : b ≤ 9223372036854775807) (h : ¬ (-9223372036854775808 ≤ a + b ∧ a + b ≤ 9223372036854775807)) :
    Calls Tryd.prog 10 #[.int .i64 a, .int .i64 b] w fun e w' => e = .returned (two 0 15) ∧ Below w.heap.size w w' := by
  have hmf : ∀ (fn : Fn) (first cap : Array Value) (w : World), (Instr.makeFunc fn first cap).run Tryd.prog w = .ok (.func fn first cap) w := fun _ _ _ _ => rfl
  have hd1 : differB a (wrap64 (a + b)) = true := differB_true (by unfold wrap64; omega)
  have hd2 : differB b (wrap64 (a + b)) = true := differB_true (by unfold wrap64; omega)
  have D1 := Lib.hid hd1; clear hd1
  have D2 := Lib.hid hd2; clear hd2
  clear h ha ha' hb hb'
  go_enter_defers Tryd.func10, Tryd.ntmps10
  go_wp2
  refine leaves_cons (f := 29) (args := #[.pointer (some ⟨w.heap.size, 0, none⟩), .pointer (some ⟨w.heap.size + 1 + 1, 0, none⟩), .pointer (some ⟨w.heap.size + 1, 0, none⟩), .pointer (some ⟨w.heap.size + 1 + 1 + 1, 0, none⟩)]) (by simp) (by simp [go_sem]) ?_
  refine (add_over ⟨w.heap.size, 0, none⟩ ⟨w.heap.size + 1 + 1, 0, none⟩ ⟨w.heap.size + 1, 0, none⟩ ⟨w.heap.size + 1 + 1 + 1, 0, none⟩ a b (wrap64 (a + b)) _ _ (by simp [go_sem]) (by simp [go_sem]) (by simp [go_sem]) (by simp [go_sem]) (by simp [go_sem]) (by simp [go_sem]) D1.out D2.out).mono ?_
  rintro e u' w'' ⟨rfl, rfl, rfl⟩
  simp [Leaves, settle, results, Tryd.results10, go_sem]
  exact below4 _ _ _ _ _

set_option maxHeartbeats 400000 in
theorem sub_over (p0 p1 p2 p3 : Addr) (a b s : Int) (u : FrameMode) (w : World) (h0 : w.cell? p0 = some (.int .i64 a)) (h1 : w.cell? p1 = some (.int .i64 b)) (h2 : w.cell? p2 = some (.int .i64 s)) (f : w.frozen? p2 = false) (h3 : (w.setCell p2 (.int .i64 0)).cell? p3 = some (.int .i64 0)) (f3 : (w.setCell p2 (.int .i64 0)).frozen? p3 = false) (d1 : differB a b = true) (d2 : differB a s = true) :
    CallsD Tryd.prog 31 #[.pointer (some p0), .pointer (some p1), .pointer (some p2), .pointer (some p3)] u w fun e u' w' => u' = u ∧ (e = .returned (.tuple #[]) ∧ w' = (w.setCell p2 (.int .i64 0)).setCell p3 (.int .i64 15)) := by
  have D1 := Lib.hid d1; clear d1
  have D2 := Lib.hid d2; clear d2
  go_enter_d Tryd.func31, Tryd.ntmps31
  go_wp2_with fail
  refine (differ_is D1.out _).mono ?_
  rintro e w' ⟨rfl, rfl⟩
  go_wp2_with fail
  refine (differ_is D2.out _).mono ?_
  rintro e w' ⟨rfl, rfl⟩
  go_wp2_with fail
  go_end0
  exact ⟨rfl, rfl⟩

set_option maxHeartbeats 400000 in
theorem sub_fits1 (p0 p1 p2 p3 : Addr) (a b s : Int) (u : FrameMode) (w : World) (h0 : w.cell? p0 = some (.int .i64 a)) (h1 : w.cell? p1 = some (.int .i64 b)) (_h2 : w.cell? p2 = some (.int .i64 s)) (d1 : differB a b = false) :
    CallsD Tryd.prog 31 #[.pointer (some p0), .pointer (some p1), .pointer (some p2), .pointer (some p3)] u w fun e u' w' => u' = u ∧ (e = .returned (.tuple #[]) ∧ w = w') := by
  have D1 := Lib.hid d1; clear d1
  go_enter_d Tryd.func31, Tryd.ntmps31
  go_wp2_with fail
  refine (differ_is D1.out _).mono ?_
  rintro e w' ⟨rfl, rfl⟩
  go_wp2_with fail
  go_end0
  exact ⟨rfl, rfl⟩

set_option maxHeartbeats 400000 in
theorem sub_fits2 (p0 p1 p2 p3 : Addr) (a b s : Int) (u : FrameMode) (w : World) (h0 : w.cell? p0 = some (.int .i64 a)) (h1 : w.cell? p1 = some (.int .i64 b)) (h2 : w.cell? p2 = some (.int .i64 s)) (d1 : differB a b = true) (d2 : differB a s = false) :
    CallsD Tryd.prog 31 #[.pointer (some p0), .pointer (some p1), .pointer (some p2), .pointer (some p3)] u w fun e u' w' => u' = u ∧ (e = .returned (.tuple #[]) ∧ w = w') := by
  have D1 := Lib.hid d1; clear d1
  have D2 := Lib.hid d2; clear d2
  go_enter_d Tryd.func31, Tryd.ntmps31
  go_wp2_with fail
  refine (differ_is D1.out _).mono ?_
  rintro e w' ⟨rfl, rfl⟩
  go_wp2_with fail
  refine (differ_is D2.out _).mono ?_
  rintro e w' ⟨rfl, rfl⟩
  go_wp2_with fail
  go_end0
  exact ⟨rfl, rfl⟩

set_option maxHeartbeats 400000 in
theorem sub_out (a b : Int) (w : World) (ha : -9223372036854775808 ≤ a) (ha' : a ≤ 9223372036854775807) (hb : -9223372036854775808 ≤ b) (hb' : b ≤ 9223372036854775807) (h : ¬ (-9223372036854775808 ≤ a - b ∧ a - b ≤ 9223372036854775807)) :
    Calls Tryd.prog 11 #[.int .i64 a, .int .i64 b] w fun e w' => e = .returned (two 0 15) ∧ Below w.heap.size w w' := by
  have hmf : ∀ (fn : Fn) (first cap : Array Value) (w : World), (Instr.makeFunc fn first cap).run Tryd.prog w = .ok (.func fn first cap) w := fun _ _ _ _ => rfl
  have hd1 : differB a b = true := differB_true (by omega)
  have hd2 : differB a (wrap64 (a - b)) = true := differB_true (by unfold wrap64; omega)
  have D1 := Lib.hid hd1; clear hd1
  have D2 := Lib.hid hd2; clear hd2
  clear h ha ha' hb hb'
  go_enter_defers Tryd.func11, Tryd.ntmps11
  go_wp2
  refine leaves_cons (f := 31) (args := #[.pointer (some ⟨w.heap.size, 0, none⟩), .pointer (some ⟨w.heap.size + 1, 0, none⟩), .pointer (some ⟨w.heap.size + 1 + 1, 0, none⟩), .pointer (some ⟨w.heap.size + 1 + 1 + 1, 0, none⟩)]) (by simp) (by simp [go_sem]) ?_
  refine (sub_over ⟨w.heap.size, 0, none⟩ ⟨w.heap.size + 1, 0, none⟩ ⟨w.heap.size + 1 + 1, 0, none⟩ ⟨w.heap.size + 1 + 1 + 1, 0, none⟩ a b (wrap64 (a - b)) _ _ (by simp [go_sem]) (by simp [go_sem]) (by simp [go_sem]) (by simp [go_sem]) (by simp [go_sem]) (by simp [go_sem]) D1.out D2.out).mono ?_
  rintro e u' w'' ⟨rfl, rfl, rfl⟩
  simp [Leaves, settle, results, Tryd.results11, go_sem]
  exact below4 _ _ _ _ _

set_option maxHeartbeats 400000 in
theorem add_in (a b : Int) (w : World) (hr : -9223372036854775808 ≤ a + b) (hr' : a + b ≤ 9223372036854775807) (ha : -9223372036854775808 ≤ a) (ha' : a ≤ 9223372036854775807) (hb : -9223372036854775808 ≤ b) (hb' : b ≤ 9223372036854775807) :
    Calls Tryd.prog 10 #[.int .i64 a, .int .i64 b] w fun e w' => e = .returned (two (a + b) 0) ∧ Below w.heap.size w w' := by
  have hmf : ∀ (fn : Fn) (first cap : Array Value) (w : World), (Instr.makeFunc fn first cap).run Tryd.prog w = .ok (.func fn first cap) w := fun _ _ _ _ => rfl
  have hd : differB a (a + b) = false ∨ (differB a (a + b) = true ∧ differB b (a + b) = false) := by
    cases d : differB a (a + b) with
    | false => exact .inl rfl
    | true => exact .inr ⟨rfl, differB_false (by have := of_differB d; omega)⟩
  clear ha ha' hb hb'
  rcases hd with hd | ⟨hd1, hd2⟩
  · have D1 := Lib.hid hd; clear hd
    go_enter_defers Tryd.func10, Tryd.ntmps10
    go_wp2
    refine leaves_cons (f := 29) (args := #[.pointer (some ⟨w.heap.size, 0, none⟩), .pointer (some ⟨w.heap.size + 1 + 1, 0, none⟩), .pointer (some ⟨w.heap.size + 1, 0, none⟩), .pointer (some ⟨w.heap.size + 1 + 1 + 1, 0, none⟩)]) (by simp) (by simp [go_sem]) ?_
    refine (add_fits1 ⟨w.heap.size, 0, none⟩ ⟨w.heap.size + 1 + 1, 0, none⟩ ⟨w.heap.size + 1, 0, none⟩ ⟨w.heap.size + 1 + 1 + 1, 0, none⟩ a b (a + b) _ _ (by simp [go_sem]) (by simp [go_sem]) (by simp [go_sem]) D1.out).mono ?_
    rintro e u' w'' ⟨rfl, rfl, rfl⟩
    simp [Leaves, settle, results, Tryd.results10, go_sem]
    exact below4 _ _ _ _ _
  · have D1 := Lib.hid hd1; clear hd1
    have D2 := Lib.hid hd2; clear hd2
    go_enter_defers Tryd.func10, Tryd.ntmps10
    go_wp2
    refine leaves_cons (f := 29) (args := #[.pointer (some ⟨w.heap.size, 0, none⟩), .pointer (some ⟨w.heap.size + 1 + 1, 0, none⟩), .pointer (some ⟨w.heap.size + 1, 0, none⟩), .pointer (some ⟨w.heap.size + 1 + 1 + 1, 0, none⟩)]) (by simp) (by simp [go_sem]) ?_
    refine (add_fits2 ⟨w.heap.size, 0, none⟩ ⟨w.heap.size + 1 + 1, 0, none⟩ ⟨w.heap.size + 1, 0, none⟩ ⟨w.heap.size + 1 + 1 + 1, 0, none⟩ a b (a + b) _ _ (by simp [go_sem]) (by simp [go_sem]) (by simp [go_sem]) D1.out D2.out).mono ?_
    rintro e u' w'' ⟨rfl, rfl, rfl⟩
    simp [Leaves, settle, results, Tryd.results10, go_sem]
    exact below4 _ _ _ _ _

set_option maxHeartbeats 400000 in
theorem sub_in (a b : Int) (w : World) (hr : -9223372036854775808 ≤ a - b) (hr' : a - b ≤ 9223372036854775807) (ha : -9223372036854775808 ≤ a) (ha' : a ≤ 9223372036854775807) (hb : -9223372036854775808 ≤ b) (hb' : b ≤ 9223372036854775807) :
    Calls Tryd.prog 11 #[.int .i64 a, .int .i64 b] w fun e w' => e = .returned (two (a - b) 0) ∧ Below w.heap.size w w' := by
  have hmf : ∀ (fn : Fn) (first cap : Array Value) (w : World), (Instr.makeFunc fn first cap).run Tryd.prog w = .ok (.func fn first cap) w := fun _ _ _ _ => rfl
  have hd : differB a b = false ∨ (differB a b = true ∧ differB a (a - b) = false) := by
    cases d : differB a b with
    | false => exact .inl rfl
    | true => exact .inr ⟨rfl, differB_false (by have := of_differB d; omega)⟩
  clear ha ha' hb hb'
  rcases hd with hd | ⟨hd1, hd2⟩
  · have D1 := Lib.hid hd; clear hd
    go_enter_defers Tryd.func11, Tryd.ntmps11
    go_wp2
    refine leaves_cons (f := 31) (args := #[.pointer (some ⟨w.heap.size, 0, none⟩), .pointer (some ⟨w.heap.size + 1, 0, none⟩), .pointer (some ⟨w.heap.size + 1 + 1, 0, none⟩), .pointer (some ⟨w.heap.size + 1 + 1 + 1, 0, none⟩)]) (by simp) (by simp [go_sem]) ?_
    refine (sub_fits1 ⟨w.heap.size, 0, none⟩ ⟨w.heap.size + 1, 0, none⟩ ⟨w.heap.size + 1 + 1, 0, none⟩ ⟨w.heap.size + 1 + 1 + 1, 0, none⟩ a b (a - b) _ _ (by simp [go_sem]) (by simp [go_sem]) (by simp [go_sem]) D1.out).mono ?_
    rintro e u' w'' ⟨rfl, rfl, rfl⟩
    simp [Leaves, settle, results, Tryd.results11, go_sem]
    exact below4 _ _ _ _ _
  · have D1 := Lib.hid hd1; clear hd1
    have D2 := Lib.hid hd2; clear hd2
    go_enter_defers Tryd.func11, Tryd.ntmps11
    go_wp2
    refine leaves_cons (f := 31) (args := #[.pointer (some ⟨w.heap.size, 0, none⟩), .pointer (some ⟨w.heap.size + 1, 0, none⟩), .pointer (some ⟨w.heap.size + 1 + 1, 0, none⟩), .pointer (some ⟨w.heap.size + 1 + 1 + 1, 0, none⟩)]) (by simp) (by simp [go_sem]) ?_
    refine (sub_fits2 ⟨w.heap.size, 0, none⟩ ⟨w.heap.size + 1, 0, none⟩ ⟨w.heap.size + 1 + 1, 0, none⟩ ⟨w.heap.size + 1 + 1 + 1, 0, none⟩ a b (a - b) _ _ (by simp [go_sem]) (by simp [go_sem]) (by simp [go_sem]) D1.out D2.out).mono ?_
    rintro e u' w'' ⟨rfl, rfl, rfl⟩
    simp [Leaves, settle, results, Tryd.results11, go_sem]
    exact below4 _ _ _ _ _
end Go.Proofs.YtadnehnhgnfclaaDoor
