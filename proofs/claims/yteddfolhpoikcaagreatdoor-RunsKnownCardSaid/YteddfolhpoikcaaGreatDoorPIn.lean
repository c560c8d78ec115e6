/-
 DERIVED. CONTRACTS of package ints that later layers call: sums.
 DERIVED. CONTRACTS of package ints that later layers call: differences.
-/
import Derived.Test.YteddfolhpoikcaaGreatDoorPPa
namespace Go.Proofs.YteddfolhpoikcaaGreatDoor
open Go.RowKit

/-- a pair of a number and an error, as it is returned -/
abbrev two (n e : Int) : Value := .tuple #[.int .i64 n, .int .i64 e]
set_option maxHeartbeats 400000 in
theorem add_over (p0 p1 p2 p3 : Addr) (a b s : Int) (u : FrameMode) (w : World) (h0 : w.cell? p0 = some (.int .i64 a)) (h1 : w.cell? p1 = some (.int .i64 s)) (h2 : w.cell? p2 = some (.int .i64 b)) (f : w.frozen? p1 = false) (h3 : (w.setCell p1 (.int .i64 0)).cell? p3 = some (.int .i64 0)) (f3 : (w.setCell p1 (.int .i64 0)).frozen? p3 = false) (d1 : differB a s = true) (d2 : differB b s = true) :
 CallsD Tryz.prog 72 #[.pointer (some p0), .pointer (some p1), .pointer (some p2), .pointer (some p3)] u w fun e u' w' => u' = u ∧ (e = .returned (.tuple #[]) ∧ w' = (w.setCell p1 (.int .i64 0)).setCell p3 (.int .i64 15)) := by
 have D1 := Lib.hid d1; clear d1
 have D2 := Lib.hid d2; clear d2
 go_enter_d Tryz.func72, Tryz.ntmps72
 go_wp2_with fail
 refine (differ_is D1.out _).mono ?_
 rintro e w' ⟨rfl, rfl⟩
 go_wp2_with fail
 refine (differ_is D2.out _).mono ?_
 rintro e w' ⟨rfl, rfl⟩
 go_wp2_with fail
 go_end0
 exact ⟨rfl, rfl⟩

set_option maxHeartbeats 400000 in
theorem add_fits1 (p0 p1 p2 p3 : Addr) (a b s : Int) (u : FrameMode) (w : World) (h0 : w.cell? p0 = some (.int .i64 a)) (h1 : w.cell? p1 = some (.int .i64 s)) (_h2 : w.cell? p2 = some (.int .i64 b)) (d1 : differB a s = false) :
 CallsD Tryz.prog 72 #[.pointer (some p0), .pointer (some p1), .pointer (some p2), .pointer (some p3)] u w fun e u' w' => u' = u ∧ (e = .returned (.tuple #[]) ∧ w = w') := by
 have D1 := Lib.hid d1; clear d1
 go_enter_d Tryz.func72, Tryz.ntmps72
 go_wp2_with fail
 refine (differ_is D1.out _).mono ?_
 rintro e w' ⟨rfl, rfl⟩
 go_wp2_with fail
 go_end0
 exact ⟨rfl, rfl⟩

set_option maxHeartbeats 400000 in
theorem add_fits2 (p0 p1 p2 p3 : Addr) (a b s : Int) (u : FrameMode) (w : World) (h0 : w.cell? p0 = some (.int .i64 a)) (h1 : w.cell? p1 = some (.int .i64 s)) (h2 : w.cell? p2 = some (.int .i64 b)) (d1 : differB a s = true) (d2 : differB b s = false) :
 CallsD Tryz.prog 72 #[.pointer (some p0), .pointer (some p1), .pointer (some p2), .pointer (some p3)] u w fun e u' w' => u' = u ∧ (e = .returned (.tuple #[]) ∧ w = w') := by
 have D1 := Lib.hid d1; clear d1
 have D2 := Lib.hid d2; clear d2
 go_enter_d Tryz.func72, Tryz.ntmps72
 go_wp2_with fail
 refine (differ_is D1.out _).mono ?_
 rintro e w' ⟨rfl, rfl⟩
 go_wp2_with fail
 refine (differ_is D2.out _).mono ?_
 rintro e w' ⟨rfl, rfl⟩
 go_wp2_with fail
 go_end0
 exact ⟨rfl, rfl⟩

set_option maxHeartbeats 400000 in
theorem add_out (a b : Int) (w : World) (ha : -9223372036854775808 ≤ a) (ha' : a ≤ 9223372036854775807) (hb : -9223372036854775808 ≤ b) (hb' : b ≤ 9223372036854775807) (h : ¬ (-9223372036854775808 ≤ a + b ∧ a + b ≤ 9223372036854775807)) :
 Calls Tryz.prog 49 #[.int .i64 a, .int .i64 b] w fun e w' => e = .returned (two 0 15) ∧ Below w.heap.size w w' := by
 have hmf : ∀ (fn : Fn) (first cap : Array Value) (w : World), (Instr.makeFunc fn first cap).run Tryz.prog w = .ok (.func fn first cap) w := fun _ _ _ _ => rfl
 have hd1 : differB a (wrap64 (a + b)) = true := differB_true (by unfold wrap64; omega)
 have hd2 : differB b (wrap64 (a + b)) = true := differB_true (by unfold wrap64; omega)
 have D1 := Lib.hid hd1; clear hd1
 have D2 := Lib.hid hd2; clear hd2
 clear h ha ha' hb hb'
 go_enter_defers Tryz.func49, Tryz.ntmps49
 go_wp2
 refine leaves_cons (f := 72) (args := #[.pointer (some ⟨w.heap.size, 0, none⟩), .pointer (some ⟨w.heap.size + 1 + 1, 0, none⟩), .pointer (some ⟨w.heap.size + 1, 0, none⟩), .pointer (some ⟨w.heap.size + 1 + 1 + 1, 0, none⟩)]) (by simp) (by simp [go_sem]) ?_
 refine (add_over ⟨w.heap.size, 0, none⟩ ⟨w.heap.size + 1 + 1, 0, none⟩ ⟨w.heap.size + 1, 0, none⟩ ⟨w.heap.size + 1 + 1 + 1, 0, none⟩ a b (wrap64 (a + b)) _ _ (by simp [go_sem]) (by simp [go_sem]) (by simp [go_sem]) (by simp [go_sem]) (by simp [go_sem]) (by simp [go_sem]) D1.out D2.out).mono ?_
 rintro e u' w'' ⟨rfl, rfl, rfl⟩
 simp [Leaves, settle, results, Tryz.results49, go_sem]
 exact below4 _ _ _ _ _

set_option maxHeartbeats 400000 in
theorem add_in (a b : Int) (w : World) (hr : -9223372036854775808 ≤ a + b) (hr' : a + b ≤ 9223372036854775807) (ha : -9223372036854775808 ≤ a) (ha' : a ≤ 9223372036854775807) (hb : -9223372036854775808 ≤ b) (hb' : b ≤ 9223372036854775807) :
 Calls Tryz.prog 49 #[.int .i64 a, .int .i64 b] w fun e w' => e = .returned (two (a + b) 0) ∧ Below w.heap.size w w' := by
 have hmf : ∀ (fn : Fn) (first cap : Array Value) (w : World), (Instr.makeFunc fn first cap).run Tryz.prog w = .ok (.func fn first cap) w := fun _ _ _ _ => rfl
 have hd : differB a (a + b) = false ∨ (differB a (a + b) = true ∧ differB b (a + b) = false) := by
  cases d : differB a (a + b) with
  | false => exact .inl rfl
  | true => exact .inr ⟨rfl, differB_false (by have := of_differB d; omega)⟩
 clear ha ha' hb hb'
 rcases hd with hd | ⟨hd1, hd2⟩
 ·have D1 := Lib.hid hd; clear hd
  go_enter_defers Tryz.func49, Tryz.ntmps49
  go_wp2
  refine leaves_cons (f := 72) (args := #[.pointer (some ⟨w.heap.size, 0, none⟩), .pointer (some ⟨w.heap.size + 1 + 1, 0, none⟩), .pointer (some ⟨w.heap.size + 1, 0, none⟩), .pointer (some ⟨w.heap.size + 1 + 1 + 1, 0, none⟩)]) (by simp) (by simp [go_sem]) ?_
  refine (add_fits1 ⟨w.heap.size, 0, none⟩ ⟨w.heap.size + 1 + 1, 0, none⟩ ⟨w.heap.size + 1, 0, none⟩ ⟨w.heap.size + 1 + 1 + 1, 0, none⟩ a b (a + b) _ _ (by simp [go_sem]) (by simp [go_sem]) (by simp [go_sem]) D1.out).mono ?_
  rintro e u' w'' ⟨rfl, rfl, rfl⟩
  simp [Leaves, settle, results, Tryz.results49, go_sem]
  exact below4 _ _ _ _ _
 ·have D1 := Lib.hid hd1; clear hd1
  have D2 := Lib.hid hd2; clear hd2
  go_enter_defers Tryz.func49, Tryz.ntmps49
  go_wp2
  refine leaves_cons (f := 72) (args := #[.pointer (some ⟨w.heap.size, 0, none⟩), .pointer (some ⟨w.heap.size + 1 + 1, 0, none⟩), .pointer (some ⟨w.heap.size + 1, 0, none⟩), .pointer (some ⟨w.heap.size + 1 + 1 + 1, 0, none⟩)]) (by simp) (by simp [go_sem]) ?_
  refine (add_fits2 ⟨w.heap.size, 0, none⟩ ⟨w.heap.size + 1 + 1, 0, none⟩ ⟨w.heap.size + 1, 0, none⟩ ⟨w.heap.size + 1 + 1 + 1, 0, none⟩ a b (a + b) _ _ (by simp [go_sem]) (by simp [go_sem]) (by simp [go_sem]) D1.out D2.out).mono ?_
  rintro e u' w'' ⟨rfl, rfl, rfl⟩
  simp [Leaves, settle, results, Tryz.results49, go_sem]
  exact below4 _ _ _ _ _

end Go.Proofs.YteddfolhpoikcaaGreatDoor
namespace Go.Proofs.YteddfolhpoikcaaGreatDoor
open Go.RowKit

set_option maxHeartbeats 400000 in
theorem sub_over (p0 p1 p2 p3 : Addr) (a b s : Int) (u : FrameMode) (w : World) (h0 : w.cell? p0 = some (.int .i64 a)) (h1 : w.cell? p1 = some (.int .i64 b)) (h2 : w.cell? p2 = some (.int .i64 s)) (f : w.frozen? p2 = false) (h3 : (w.setCell p2 (.int .i64 0)).cell? p3 = some (.int .i64 0)) (f3 : (w.setCell p2 (.int .i64 0)).frozen? p3 = false) (d1 : differB a b = true) (d2 : differB a s = true) :
 CallsD Tryz.prog 70 #[.pointer (some p0), .pointer (some p1), .pointer (some p2), .pointer (some p3)] u w fun e u' w' => u' = u ∧ (e = .returned (.tuple #[]) ∧ w' = (w.setCell p2 (.int .i64 0)).setCell p3 (.int .i64 15)) := by
 have D1 := Lib.hid d1; clear d1
 have D2 := Lib.hid d2; clear d2
 go_enter_d Tryz.func70, Tryz.ntmps70
 go_wp2_with fail
 refine (differ_is D1.out _).mono ?_
 rintro e w' ⟨rfl, rfl⟩
 go_wp2_with fail
 refine (differ_is D2.out _).mono ?_
 rintro e w' ⟨rfl, rfl⟩
 go_wp2_with fail
 go_end0
 exact ⟨rfl, rfl⟩

set_option maxHeartbeats 400000 in
theorem sub_fits1 (p0 p1 p2 p3 : Addr) (a b s : Int) (u : FrameMode) (w : World) (h0 : w.cell? p0 = some (.int .i64 a)) (h1 : w.cell? p1 = some (.int .i64 b)) (_h2 : w.cell? p2 = some (.int .i64 s)) (d1 : differB a b = false) :
 CallsD Tryz.prog 70 #[.pointer (some p0), .pointer (some p1), .pointer (some p2), .pointer (some p3)] u w fun e u' w' => u' = u ∧ (e = .returned (.tuple #[]) ∧ w = w') := by
 have D1 := Lib.hid d1; clear d1
 go_enter_d Tryz.func70, Tryz.ntmps70
 go_wp2_with fail
 refine (differ_is D1.out _).mono ?_
 rintro e w' ⟨rfl, rfl⟩
 go_wp2_with fail
 go_end0
 exact ⟨rfl, rfl⟩

set_option maxHeartbeats 400000 in
theorem sub_fits2 (p0 p1 p2 p3 : Addr) (a b s : Int) (u : FrameMode) (w : World) (h0 : w.cell? p0 = some (.int .i64 a)) (h1 : w.cell? p1 = some (.int .i64 b)) (h2 : w.cell? p2 = some (.int .i64 s)) (d1 : differB a b = true) (d2 : differB a s = false) :
 CallsD Tryz.prog 70 #[.pointer (some p0), .pointer (some p1), .pointer (some p2), .pointer (some p3)] u w fun e u' w' => u' = u ∧ (e = .returned (.tuple #[]) ∧ w = w') := by
 have D1 := Lib.hid d1; clear d1
 have D2 := Lib.hid d2; clear d2
 go_enter_d Tryz.func70, Tryz.ntmps70
 go_wp2_with fail
 refine (differ_is D1.out _).mono ?_
 rintro e w' ⟨rfl, rfl⟩
 go_wp2_with fail
 refine (differ_is D2.out _).mono ?_
 rintro e w' ⟨rfl, rfl⟩
 go_wp2_with fail
 go_end0
 exact ⟨rfl, rfl⟩

set_option maxHeartbeats 400000 in
theorem sub_out (a b : Int) (w : World) (ha : -9223372036854775808 ≤ a) (ha' : a ≤ 9223372036854775807) (hb : -9223372036854775808 ≤ b) (hb' : b ≤ 9223372036854775807) (h : ¬ (-9223372036854775808 ≤ a - b ∧ a - b ≤ 9223372036854775807)) :
 Calls Tryz.prog 48 #[.int .i64 a, .int .i64 b] w fun e w' => e = .returned (two 0 15) ∧ Below w.heap.size w w' := by
 have hmf : ∀ (fn : Fn) (first cap : Array Value) (w : World), (Instr.makeFunc fn first cap).run Tryz.prog w = .ok (.func fn first cap) w := fun _ _ _ _ => rfl
 have hd1 : differB a b = true := differB_true (by omega)
 have hd2 : differB a (wrap64 (a - b)) = true := differB_true (by unfold wrap64; omega)
 have D1 := Lib.hid hd1; clear hd1
 have D2 := Lib.hid hd2; clear hd2
 clear h ha ha' hb hb'
 go_enter_defers Tryz.func48, Tryz.ntmps48
 go_wp2
 refine leaves_cons (f := 70) (args := #[.pointer (some ⟨w.heap.size, 0, none⟩), .pointer (some ⟨w.heap.size + 1, 0, none⟩), .pointer (some ⟨w.heap.size + 1 + 1, 0, none⟩), .pointer (some ⟨w.heap.size + 1 + 1 + 1, 0, none⟩)]) (by simp) (by simp [go_sem]) ?_
 refine (sub_over ⟨w.heap.size, 0, none⟩ ⟨w.heap.size + 1, 0, none⟩ ⟨w.heap.size + 1 + 1, 0, none⟩ ⟨w.heap.size + 1 + 1 + 1, 0, none⟩ a b (wrap64 (a - b)) _ _ (by simp [go_sem]) (by simp [go_sem]) (by simp [go_sem]) (by simp [go_sem]) (by simp [go_sem]) (by simp [go_sem]) D1.out D2.out).mono ?_
 rintro e u' w'' ⟨rfl, rfl, rfl⟩
 simp [Leaves, settle, results, Tryz.results48, go_sem]
 exact below4 _ _ _ _ _

set_option maxHeartbeats 400000 in
theorem sub_in (a b : Int) (w : World) (hr : -9223372036854775808 ≤ a - b) (hr' : a - b ≤ 9223372036854775807) (ha : -9223372036854775808 ≤ a) (ha' : a ≤ 9223372036854775807) (hb : -9223372036854775808 ≤ b) (hb' : b ≤ 9223372036854775807) :
 Calls Tryz.prog 48 #[.int .i64 a, .int .i64 b] w fun e w' => e = .returned (two (a - b) 0) ∧ Below w.heap.size w w' := by
 have hmf : ∀ (fn : Fn) (first cap : Array Value) (w : World), (Instr.makeFunc fn first cap).run Tryz.prog w = .ok (.func fn first cap) w := fun _ _ _ _ => rfl
 have hd : differB a b = false ∨ (differB a b = true ∧ differB a (a - b) = false) := by
  cases d : differB a b with
  | false => exact .inl rfl
  | true => exact .inr ⟨rfl, differB_false (by have := of_differB d; omega)⟩
 clear ha ha' hb hb'
 rcases hd with hd | ⟨hd1, hd2⟩
 ·have D1 := Lib.hid hd; clear hd
  go_enter_defers Tryz.func48, Tryz.ntmps48
  go_wp2
  refine leaves_cons (f := 70) (args := #[.pointer (some ⟨w.heap.size, 0, none⟩), .pointer (some ⟨w.heap.size + 1, 0, none⟩), .pointer (some ⟨w.heap.size + 1 + 1, 0, none⟩), .pointer (some ⟨w.heap.size + 1 + 1 + 1, 0, none⟩)]) (by simp) (by simp [go_sem]) ?_
  refine (sub_fits1 ⟨w.heap.size, 0, none⟩ ⟨w.heap.size + 1, 0, none⟩ ⟨w.heap.size + 1 + 1, 0, none⟩ ⟨w.heap.size + 1 + 1 + 1, 0, none⟩ a b (a - b) _ _ (by simp [go_sem]) (by simp [go_sem]) (by simp [go_sem]) D1.out).mono ?_
  rintro e u' w'' ⟨rfl, rfl, rfl⟩
  simp [Leaves, settle, results, Tryz.results48, go_sem]
  exact below4 _ _ _ _ _
 ·have D1 := Lib.hid hd1; clear hd1
  have D2 := Lib.hid hd2; clear hd2
  go_enter_defers Tryz.func48, Tryz.ntmps48
  go_wp2
  refine leaves_cons (f := 70) (args := #[.pointer (some ⟨w.heap.size, 0, none⟩), .pointer (some ⟨w.heap.size + 1, 0, none⟩), .pointer (some ⟨w.heap.size + 1 + 1, 0, none⟩), .pointer (some ⟨w.heap.size + 1 + 1 + 1, 0, none⟩)]) (by simp) (by simp [go_sem]) ?_
  refine (sub_fits2 ⟨w.heap.size, 0, none⟩ ⟨w.heap.size + 1, 0, none⟩ ⟨w.heap.size + 1 + 1, 0, none⟩ ⟨w.heap.size + 1 + 1 + 1, 0, none⟩ a b (a - b) _ _ (by simp [go_sem]) (by simp [go_sem]) (by simp [go_sem]) D1.out D2.out).mono ?_
  rintro e u' w'' ⟨rfl, rfl, rfl⟩
  simp [Leaves, settle, results, Tryz.results48, go_sem]
  exact below4 _ _ _ _ _
end Go.Proofs.YteddfolhpoikcaaGreatDoor
