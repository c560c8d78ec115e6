/-
  DERIVED. WALKS of the law FloatsWhole (the floor does not fit).
-/
import Derived.Test.YtadnehnhgnfclaaFlWholeF
namespace Go.Proofs.Ytadnehnhgnfclaa
open Go.RowKit

set_option maxRecDepth 100000 in
set_option maxHeartbeats 4000000 in
theorem lawWhole_000 (x : Nat) (n : Int) (w : World) {y lo hi : Nat} {a e b f c want : Int} {isA isB : Bool} (F : WholeFacts x n y lo hi a e b f c want isA isB) (hA : isA = false ∧ e = 15 ∧ a = 0) (hC : CeilKind x b f want isB 0) (hD : CmpKind x lo hi c 0) :
    Calls Try.prog 6 #[.float .f64 x, .int .i64 n] w fun e w' => e = .returned (.bool true) ∧ w = w' := by
  have num := F.num
  have neg := F.neg
  obtain ⟨rfl, rfl, rfl⟩ := hA
  cases hC with
  | least ck1 ck4 ck5 =>
  subst ck4; subst ck5
  cases hD with
  | same hc a1 a2 a3 a4 a5 a6 =>
  subst hc
  go_enter Try.func6, Try.ntmps6
  go_wp2_with fail
  refine (F.floor _).mono ?_
  rintro z w' ⟨rfl, rfl⟩
  go_wp2_with fail
  refine (F.ceil _).mono ?_
  rintro z w' ⟨rfl, rfl⟩
  go_wp2_with fail
  refine (F.cmp _).mono ?_
  rintro z w' ⟨rfl, rfl⟩
  go_wp2_with fail
  refine (F.ref _).mono ?_
  rintro z w' ⟨rfl, rfl⟩
  go_wp2_with fail
  refine (F.ref2 _).mono ?_
  rintro z w' ⟨rfl, rfl⟩
  go_wp2_with fail
  refine (F.same _ _).mono ?_
  rintro z w' ⟨rfl, rfl⟩
  go_wp2_with fail
  refine (F.up _).mono ?_
  rintro z w' ⟨rfl, rfl⟩
  go_wp2_with fail
  refine (F.down _).mono ?_
  rintro z w' ⟨rfl, rfl⟩
  go_wp2_with fail
  refine (F.down _).mono ?_
  rintro z w' ⟨rfl, rfl⟩
  go_wp2_with fail
  refine (F.up _).mono ?_
  rintro z w' ⟨rfl, rfl⟩
  go_wp2_with fail
  refine (F.down _).mono ?_
  rintro z w' ⟨rfl, rfl⟩
  go_wp2_with fail
  refine (F.up _).mono ?_
  rintro z w' ⟨rfl, rfl⟩
  go_wp2_with fail
  refine (lives_any _).mono ?_
  rintro z w' ⟨rfl, rfl⟩
  go_wp2_with fail
  go_ret
  exact ⟨rfl, rfl⟩
set_option maxRecDepth 100000 in
set_option maxHeartbeats 4000000 in
theorem lawWhole_001 (x : Nat) (n : Int) (w : World) {y lo hi : Nat} {a e b f c want : Int} {isA isB : Bool} (F : WholeFacts x n y lo hi a e b f c want isA isB) (hA : isA = false ∧ e = 15 ∧ a = 0) (hC : CeilKind x b f want isB 0) (hD : CmpKind x lo hi c 1) :
    Calls Try.prog 6 #[.float .f64 x, .int .i64 n] w fun e w' => e = .returned (.bool true) ∧ w = w' := by
  have num := F.num
  have neg := F.neg
  obtain ⟨rfl, rfl, rfl⟩ := hA
  cases hC with
  | least ck1 ck4 ck5 =>
  subst ck4; subst ck5
  cases hD with
  | below1 hc a1 a3 a4 a5 a6 =>
  subst hc
  go_enter Try.func6, Try.ntmps6
  go_wp2_with fail
  refine (F.floor _).mono ?_
  rintro z w' ⟨rfl, rfl⟩
  go_wp2_with fail
  refine (F.ceil _).mono ?_
  rintro z w' ⟨rfl, rfl⟩
  go_wp2_with fail
  refine (F.cmp _).mono ?_
  rintro z w' ⟨rfl, rfl⟩
  go_wp2_with fail
  refine (F.ref _).mono ?_
  rintro z w' ⟨rfl, rfl⟩
  go_wp2_with fail
  refine (F.ref2 _).mono ?_
  rintro z w' ⟨rfl, rfl⟩
  go_wp2_with fail
  refine (F.same _ _).mono ?_
  rintro z w' ⟨rfl, rfl⟩
  go_wp2_with fail
  refine (F.up _).mono ?_
  rintro z w' ⟨rfl, rfl⟩
  go_wp2_with fail
  refine (F.down _).mono ?_
  rintro z w' ⟨rfl, rfl⟩
  go_wp2_with fail
  refine (F.up _).mono ?_
  rintro z w' ⟨rfl, rfl⟩
  go_wp2_with fail
  refine (F.down _).mono ?_
  rintro z w' ⟨rfl, rfl⟩
  go_wp2_with fail
  refine (F.up _).mono ?_
  rintro z w' ⟨rfl, rfl⟩
  go_wp2_with fail
  refine (F.down _).mono ?_
  rintro z w' ⟨rfl, rfl⟩
  go_wp2_with fail
  refine (lives_any _).mono ?_
  rintro z w' ⟨rfl, rfl⟩
  go_wp2_with fail
  go_ret
  exact ⟨rfl, rfl⟩
set_option maxRecDepth 100000 in
set_option maxHeartbeats 4000000 in
theorem lawWhole_002 (x : Nat) (n : Int) (w : World) {y lo hi : Nat} {a e b f c want : Int} {isA isB : Bool} (F : WholeFacts x n y lo hi a e b f c want isA isB) (hA : isA = false ∧ e = 15 ∧ a = 0) (hC : CeilKind x b f want isB 0) (hD : CmpKind x lo hi c 2) :
    Calls Try.prog 6 #[.float .f64 x, .int .i64 n] w fun e w' => e = .returned (.bool true) ∧ w = w' := by
  have num := F.num
  have neg := F.neg
  obtain ⟨rfl, rfl, rfl⟩ := hA
  cases hC with
  | least ck1 ck4 ck5 =>
  subst ck4; subst ck5
  cases hD with
  | below0 hc a1 a3 a4 a5 a7 =>
  subst hc
  go_enter Try.func6, Try.ntmps6
  go_wp2_with fail
  refine (F.floor _).mono ?_
  rintro z w' ⟨rfl, rfl⟩
  go_wp2_with fail
  refine (F.ceil _).mono ?_
  rintro z w' ⟨rfl, rfl⟩
  go_wp2_with fail
  refine (F.cmp _).mono ?_
  rintro z w' ⟨rfl, rfl⟩
  go_wp2_with fail
  refine (F.ref _).mono ?_
  rintro z w' ⟨rfl, rfl⟩
  go_wp2_with fail
  refine (F.ref2 _).mono ?_
  rintro z w' ⟨rfl, rfl⟩
  go_wp2_with fail
  refine (F.same _ _).mono ?_
  rintro z w' ⟨rfl, rfl⟩
  go_wp2_with fail
  refine (F.up _).mono ?_
  rintro z w' ⟨rfl, rfl⟩
  go_wp2_with fail
  refine (F.down _).mono ?_
  rintro z w' ⟨rfl, rfl⟩
  go_wp2_with fail
  refine (F.up _).mono ?_
  rintro z w' ⟨rfl, rfl⟩
  go_wp2_with fail
  refine (F.down _).mono ?_
  rintro z w' ⟨rfl, rfl⟩
  go_wp2_with fail
  refine (F.down _).mono ?_
  rintro z w' ⟨rfl, rfl⟩
  go_wp2_with fail
  refine (lives_any _).mono ?_
  rintro z w' ⟨rfl, rfl⟩
  go_wp2_with fail
  go_ret
  exact ⟨rfl, rfl⟩
set_option maxRecDepth 100000 in
set_option maxHeartbeats 4000000 in
theorem lawWhole_003 (x : Nat) (n : Int) (w : World) {y lo hi : Nat} {a e b f c want : Int} {isA isB : Bool} (F : WholeFacts x n y lo hi a e b f c want isA isB) (hA : isA = false ∧ e = 15 ∧ a = 0) (hC : CeilKind x b f want isB 0) (hD : CmpKind x lo hi c 3) :
    Calls Try.prog 6 #[.float .f64 x, .int .i64 n] w fun e w' => e = .returned (.bool true) ∧ w = w' := by
  have num := F.num
  have neg := F.neg
  obtain ⟨rfl, rfl, rfl⟩ := hA
  cases hC with
  | least ck1 ck4 ck5 =>
  subst ck4; subst ck5
  cases hD with
  | above hc a1 a2 a3 a5 a8 =>
  subst hc
  go_enter Try.func6, Try.ntmps6
  go_wp2_with fail
  refine (F.floor _).mono ?_
  rintro z w' ⟨rfl, rfl⟩
  go_wp2_with fail
  refine (F.ceil _).mono ?_
  rintro z w' ⟨rfl, rfl⟩
  go_wp2_with fail
  refine (F.cmp _).mono ?_
  rintro z w' ⟨rfl, rfl⟩
  go_wp2_with fail
  refine (F.ref _).mono ?_
  rintro z w' ⟨rfl, rfl⟩
  go_wp2_with fail
  refine (F.ref2 _).mono ?_
  rintro z w' ⟨rfl, rfl⟩
  go_wp2_with fail
  refine (F.same _ _).mono ?_
  rintro z w' ⟨rfl, rfl⟩
  go_wp2_with fail
  refine (F.up _).mono ?_
  rintro z w' ⟨rfl, rfl⟩
  go_wp2_with fail
  refine (F.down _).mono ?_
  rintro z w' ⟨rfl, rfl⟩
  go_wp2_with fail
  refine (F.down _).mono ?_
  rintro z w' ⟨rfl, rfl⟩
  go_wp2_with fail
  refine (F.down _).mono ?_
  rintro z w' ⟨rfl, rfl⟩
  go_wp2_with fail
  refine (F.down _).mono ?_
  rintro z w' ⟨rfl, rfl⟩
  go_wp2_with fail
  refine (F.up _).mono ?_
  rintro z w' ⟨rfl, rfl⟩
  go_wp2_with fail
  refine (lives_any _).mono ?_
  rintro z w' ⟨rfl, rfl⟩
  go_wp2_with fail
  go_ret
  exact ⟨rfl, rfl⟩
set_option maxRecDepth 100000 in
set_option maxHeartbeats 4000000 in
theorem lawWhole_010 (x : Nat) (n : Int) (w : World) {y lo hi : Nat} {a e b f c want : Int} {isA isB : Bool} (F : WholeFacts x n y lo hi a e b f c want isA isB) (hA : isA = false ∧ e = 15 ∧ a = 0) (hC : CeilKind x b f want isB 1) (hD : CmpKind x lo hi c 0) :
    Calls Try.prog 6 #[.float .f64 x, .int .i64 n] w fun e w' => e = .returned (.bool true) ∧ w = w' := by
  have num := F.num
  have neg := F.neg
  obtain ⟨rfl, rfl, rfl⟩ := hA
  cases hC with
  | fits ck1 ck2 ck3 ck4 ck5 =>
  subst ck2; subst ck5
  cases hD with
  | same hc a1 a2 a3 a4 a5 a6 =>
  subst hc
  go_enter Try.func6, Try.ntmps6
  go_wp2_with fail
  refine (F.floor _).mono ?_
  rintro z w' ⟨rfl, rfl⟩
  go_wp2_with fail
  refine (F.ceil _).mono ?_
  rintro z w' ⟨rfl, rfl⟩
  go_wp2_with fail
  refine (F.cmp _).mono ?_
  rintro z w' ⟨rfl, rfl⟩
  go_wp2_with fail
  refine (F.ref _).mono ?_
  rintro z w' ⟨rfl, rfl⟩
  go_wp2_with fail
  refine (F.ref2 _).mono ?_
  rintro z w' ⟨rfl, rfl⟩
  go_wp2_with fail
  refine (F.same _ _).mono ?_
  rintro z w' ⟨rfl, rfl⟩
  go_wp2_with fail
  refine (F.up _).mono ?_
  rintro z w' ⟨rfl, rfl⟩
  go_wp2_with fail
  refine (F.down _).mono ?_
  rintro z w' ⟨rfl, rfl⟩
  go_wp2_with fail
  refine (F.down _).mono ?_
  rintro z w' ⟨rfl, rfl⟩
  go_wp2_with fail
  refine (F.up _).mono ?_
  rintro z w' ⟨rfl, rfl⟩
  go_wp2_with fail
  refine (F.down _).mono ?_
  rintro z w' ⟨rfl, rfl⟩
  go_wp2_with fail
  refine (F.up _).mono ?_
  rintro z w' ⟨rfl, rfl⟩
  go_wp2_with fail
  refine (lives_any _).mono ?_
  rintro z w' ⟨rfl, rfl⟩
  go_wp2_with fail
  go_ret
  exact ⟨rfl, rfl⟩
set_option maxRecDepth 100000 in
set_option maxHeartbeats 4000000 in
theorem lawWhole_011 (x : Nat) (n : Int) (w : World) {y lo hi : Nat} {a e b f c want : Int} {isA isB : Bool} (F : WholeFacts x n y lo hi a e b f c want isA isB) (hA : isA = false ∧ e = 15 ∧ a = 0) (hC : CeilKind x b f want isB 1) (hD : CmpKind x lo hi c 1) :
    Calls Try.prog 6 #[.float .f64 x, .int .i64 n] w fun e w' => e = .returned (.bool true) ∧ w = w' := by
  have num := F.num
  have neg := F.neg
  obtain ⟨rfl, rfl, rfl⟩ := hA
  cases hC with
  | fits ck1 ck2 ck3 ck4 ck5 =>
  subst ck2; subst ck5
  cases hD with
  | below1 hc a1 a3 a4 a5 a6 =>
  subst hc
  go_enter Try.func6, Try.ntmps6
  go_wp2_with fail
  refine (F.floor _).mono ?_
  rintro z w' ⟨rfl, rfl⟩
  go_wp2_with fail
  refine (F.ceil _).mono ?_
  rintro z w' ⟨rfl, rfl⟩
  go_wp2_with fail
  refine (F.cmp _).mono ?_
  rintro z w' ⟨rfl, rfl⟩
  go_wp2_with fail
  refine (F.ref _).mono ?_
  rintro z w' ⟨rfl, rfl⟩
  go_wp2_with fail
  refine (F.ref2 _).mono ?_
  rintro z w' ⟨rfl, rfl⟩
  go_wp2_with fail
  refine (F.same _ _).mono ?_
  rintro z w' ⟨rfl, rfl⟩
  go_wp2_with fail
  refine (F.up _).mono ?_
  rintro z w' ⟨rfl, rfl⟩
  go_wp2_with fail
  refine (F.down _).mono ?_
  rintro z w' ⟨rfl, rfl⟩
  go_wp2_with fail
  refine (F.up _).mono ?_
  rintro z w' ⟨rfl, rfl⟩
  go_wp2_with fail
  refine (F.down _).mono ?_
  rintro z w' ⟨rfl, rfl⟩
  go_wp2_with fail
  refine (F.up _).mono ?_
  rintro z w' ⟨rfl, rfl⟩
  go_wp2_with fail
  refine (F.down _).mono ?_
  rintro z w' ⟨rfl, rfl⟩
  go_wp2_with fail
  refine (lives_any _).mono ?_
  rintro z w' ⟨rfl, rfl⟩
  go_wp2_with fail
  go_ret
  exact ⟨rfl, rfl⟩
set_option maxRecDepth 100000 in
set_option maxHeartbeats 4000000 in
theorem lawWhole_012 (x : Nat) (n : Int) (w : World) {y lo hi : Nat} {a e b f c want : Int} {isA isB : Bool} (F : WholeFacts x n y lo hi a e b f c want isA isB) (hA : isA = false ∧ e = 15 ∧ a = 0) (hC : CeilKind x b f want isB 1) (hD : CmpKind x lo hi c 2) :
    Calls Try.prog 6 #[.float .f64 x, .int .i64 n] w fun e w' => e = .returned (.bool true) ∧ w = w' := by
  have num := F.num
  have neg := F.neg
  obtain ⟨rfl, rfl, rfl⟩ := hA
  cases hC with
  | fits ck1 ck2 ck3 ck4 ck5 =>
  subst ck2; subst ck5
  cases hD with
  | below0 hc a1 a3 a4 a5 a7 =>
  subst hc
  go_enter Try.func6, Try.ntmps6
  go_wp2_with fail
  refine (F.floor _).mono ?_
  rintro z w' ⟨rfl, rfl⟩
  go_wp2_with fail
  refine (F.ceil _).mono ?_
  rintro z w' ⟨rfl, rfl⟩
  go_wp2_with fail
  refine (F.cmp _).mono ?_
  rintro z w' ⟨rfl, rfl⟩
  go_wp2_with fail
  refine (F.ref _).mono ?_
  rintro z w' ⟨rfl, rfl⟩
  go_wp2_with fail
  refine (F.ref2 _).mono ?_
  rintro z w' ⟨rfl, rfl⟩
  go_wp2_with fail
  refine (F.same _ _).mono ?_
  rintro z w' ⟨rfl, rfl⟩
  go_wp2_with fail
  refine (F.up _).mono ?_
  rintro z w' ⟨rfl, rfl⟩
  go_wp2_with fail
  refine (F.down _).mono ?_
  rintro z w' ⟨rfl, rfl⟩
  go_wp2_with fail
  refine (F.up _).mono ?_
  rintro z w' ⟨rfl, rfl⟩
  go_wp2_with fail
  refine (F.down _).mono ?_
  rintro z w' ⟨rfl, rfl⟩
  go_wp2_with fail
  refine (F.down _).mono ?_
  rintro z w' ⟨rfl, rfl⟩
  go_wp2_with fail
  refine (lives_any _).mono ?_
  rintro z w' ⟨rfl, rfl⟩
  go_wp2_with fail
  go_ret
  exact ⟨rfl, rfl⟩
set_option maxRecDepth 100000 in
set_option maxHeartbeats 4000000 in
theorem lawWhole_013 (x : Nat) (n : Int) (w : World) {y lo hi : Nat} {a e b f c want : Int} {isA isB : Bool} (F : WholeFacts x n y lo hi a e b f c want isA isB) (hA : isA = false ∧ e = 15 ∧ a = 0) (hC : CeilKind x b f want isB 1) (hD : CmpKind x lo hi c 3) :
    Calls Try.prog 6 #[.float .f64 x, .int .i64 n] w fun e w' => e = .returned (.bool true) ∧ w = w' := by
  have num := F.num
  have neg := F.neg
  obtain ⟨rfl, rfl, rfl⟩ := hA
  cases hC with
  | fits ck1 ck2 ck3 ck4 ck5 =>
  subst ck2; subst ck5
  cases hD with
  | above hc a1 a2 a3 a5 a8 =>
  subst hc
  go_enter Try.func6, Try.ntmps6
  go_wp2_with fail
  refine (F.floor _).mono ?_
  rintro z w' ⟨rfl, rfl⟩
  go_wp2_with fail
  refine (F.ceil _).mono ?_
  rintro z w' ⟨rfl, rfl⟩
  go_wp2_with fail
  refine (F.cmp _).mono ?_
  rintro z w' ⟨rfl, rfl⟩
  go_wp2_with fail
  refine (F.ref _).mono ?_
  rintro z w' ⟨rfl, rfl⟩
  go_wp2_with fail
  refine (F.ref2 _).mono ?_
  rintro z w' ⟨rfl, rfl⟩
  go_wp2_with fail
  refine (F.same _ _).mono ?_
  rintro z w' ⟨rfl, rfl⟩
  go_wp2_with fail
  refine (F.up _).mono ?_
  rintro z w' ⟨rfl, rfl⟩
  go_wp2_with fail
  refine (F.down _).mono ?_
  rintro z w' ⟨rfl, rfl⟩
  go_wp2_with fail
  refine (F.down _).mono ?_
  rintro z w' ⟨rfl, rfl⟩
  go_wp2_with fail
  refine (F.down _).mono ?_
  rintro z w' ⟨rfl, rfl⟩
  go_wp2_with fail
  refine (F.down _).mono ?_
  rintro z w' ⟨rfl, rfl⟩
  go_wp2_with fail
  refine (F.up _).mono ?_
  rintro z w' ⟨rfl, rfl⟩
  go_wp2_with fail
  refine (lives_any _).mono ?_
  rintro z w' ⟨rfl, rfl⟩
  go_wp2_with fail
  go_ret
  exact ⟨rfl, rfl⟩
set_option maxRecDepth 100000 in
set_option maxHeartbeats 4000000 in
theorem lawWhole_020 (x : Nat) (n : Int) (w : World) {y lo hi : Nat} {a e b f c want : Int} {isA isB : Bool} (F : WholeFacts x n y lo hi a e b f c want isA isB) (hA : isA = false ∧ e = 15 ∧ a = 0) (hC : CeilKind x b f want isB 2) (hD : CmpKind x lo hi c 0) :
    Calls Try.prog 6 #[.float .f64 x, .int .i64 n] w fun e w' => e = .returned (.bool true) ∧ w = w' := by
  have num := F.num
  have neg := F.neg
  obtain ⟨rfl, rfl, rfl⟩ := hA
  cases hC with
  | none ck1 ck2 ck3 ck4 ck5 =>
  subst ck2; subst ck4; subst ck5
  cases hD with
  | same hc a1 a2 a3 a4 a5 a6 =>
  subst hc
  go_enter Try.func6, Try.ntmps6
  go_wp2_with fail
  refine (F.floor _).mono ?_
  rintro z w' ⟨rfl, rfl⟩
  go_wp2_with fail
  refine (F.ceil _).mono ?_
  rintro z w' ⟨rfl, rfl⟩
  go_wp2_with fail
  refine (F.cmp _).mono ?_
  rintro z w' ⟨rfl, rfl⟩
  go_wp2_with fail
  refine (F.ref _).mono ?_
  rintro z w' ⟨rfl, rfl⟩
  go_wp2_with fail
  refine (F.ref2 _).mono ?_
  rintro z w' ⟨rfl, rfl⟩
  go_wp2_with fail
  refine (F.up _).mono ?_
  rintro z w' ⟨rfl, rfl⟩
  go_wp2_with fail
  refine (F.down _).mono ?_
  rintro z w' ⟨rfl, rfl⟩
  go_wp2_with fail
  refine (F.down _).mono ?_
  rintro z w' ⟨rfl, rfl⟩
  go_wp2_with fail
  refine (F.up _).mono ?_
  rintro z w' ⟨rfl, rfl⟩
  go_wp2_with fail
  refine (F.down _).mono ?_
  rintro z w' ⟨rfl, rfl⟩
  go_wp2_with fail
  refine (F.up _).mono ?_
  rintro z w' ⟨rfl, rfl⟩
  go_wp2_with fail
  refine (lives_any _).mono ?_
  rintro z w' ⟨rfl, rfl⟩
  go_wp2_with fail
  go_ret
  exact ⟨rfl, rfl⟩
set_option maxRecDepth 100000 in
set_option maxHeartbeats 4000000 in
theorem lawWhole_021 (x : Nat) (n : Int) (w : World) {y lo hi : Nat} {a e b f c want : Int} {isA isB : Bool} (F : WholeFacts x n y lo hi a e b f c want isA isB) (hA : isA = false ∧ e = 15 ∧ a = 0) (hC : CeilKind x b f want isB 2) (hD : CmpKind x lo hi c 1) :
    Calls Try.prog 6 #[.float .f64 x, .int .i64 n] w fun e w' => e = .returned (.bool true) ∧ w = w' := by
  have num := F.num
  have neg := F.neg
  obtain ⟨rfl, rfl, rfl⟩ := hA
  cases hC with
  | none ck1 ck2 ck3 ck4 ck5 =>
  subst ck2; subst ck4; subst ck5
  cases hD with
  | below1 hc a1 a3 a4 a5 a6 =>
  subst hc
  go_enter Try.func6, Try.ntmps6
  go_wp2_with fail
  refine (F.floor _).mono ?_
  rintro z w' ⟨rfl, rfl⟩
  go_wp2_with fail
  refine (F.ceil _).mono ?_
  rintro z w' ⟨rfl, rfl⟩
  go_wp2_with fail
  refine (F.cmp _).mono ?_
  rintro z w' ⟨rfl, rfl⟩
  go_wp2_with fail
  refine (F.ref _).mono ?_
  rintro z w' ⟨rfl, rfl⟩
  go_wp2_with fail
  refine (F.ref2 _).mono ?_
  rintro z w' ⟨rfl, rfl⟩
  go_wp2_with fail
  refine (F.up _).mono ?_
  rintro z w' ⟨rfl, rfl⟩
  go_wp2_with fail
  refine (F.down _).mono ?_
  rintro z w' ⟨rfl, rfl⟩
  go_wp2_with fail
  refine (F.up _).mono ?_
  rintro z w' ⟨rfl, rfl⟩
  go_wp2_with fail
  refine (F.down _).mono ?_
  rintro z w' ⟨rfl, rfl⟩
  go_wp2_with fail
  refine (F.up _).mono ?_
  rintro z w' ⟨rfl, rfl⟩
  go_wp2_with fail
  refine (F.down _).mono ?_
  rintro z w' ⟨rfl, rfl⟩
  go_wp2_with fail
  refine (lives_any _).mono ?_
  rintro z w' ⟨rfl, rfl⟩
  go_wp2_with fail
  go_ret
  exact ⟨rfl, rfl⟩
set_option maxRecDepth 100000 in
set_option maxHeartbeats 4000000 in
theorem lawWhole_022 (x : Nat) (n : Int) (w : World) {y lo hi : Nat} {a e b f c want : Int} {isA isB : Bool} (F : WholeFacts x n y lo hi a e b f c want isA isB) (hA : isA = false ∧ e = 15 ∧ a = 0) (hC : CeilKind x b f want isB 2) (hD : CmpKind x lo hi c 2) :
    Calls Try.prog 6 #[.float .f64 x, .int .i64 n] w fun e w' => e = .returned (.bool true) ∧ w = w' := by
  have num := F.num
  have neg := F.neg
  obtain ⟨rfl, rfl, rfl⟩ := hA
  cases hC with
  | none ck1 ck2 ck3 ck4 ck5 =>
  subst ck2; subst ck4; subst ck5
  cases hD with
  | below0 hc a1 a3 a4 a5 a7 =>
  subst hc
  go_enter Try.func6, Try.ntmps6
  go_wp2_with fail
  refine (F.floor _).mono ?_
  rintro z w' ⟨rfl, rfl⟩
  go_wp2_with fail
  refine (F.ceil _).mono ?_
  rintro z w' ⟨rfl, rfl⟩
  go_wp2_with fail
  refine (F.cmp _).mono ?_
  rintro z w' ⟨rfl, rfl⟩
  go_wp2_with fail
  refine (F.ref _).mono ?_
  rintro z w' ⟨rfl, rfl⟩
  go_wp2_with fail
  refine (F.ref2 _).mono ?_
  rintro z w' ⟨rfl, rfl⟩
  go_wp2_with fail
  refine (F.up _).mono ?_
  rintro z w' ⟨rfl, rfl⟩
  go_wp2_with fail
  refine (F.down _).mono ?_
  rintro z w' ⟨rfl, rfl⟩
  go_wp2_with fail
  refine (F.up _).mono ?_
  rintro z w' ⟨rfl, rfl⟩
  go_wp2_with fail
  refine (F.down _).mono ?_
  rintro z w' ⟨rfl, rfl⟩
  go_wp2_with fail
  refine (F.down _).mono ?_
  rintro z w' ⟨rfl, rfl⟩
  go_wp2_with fail
  refine (lives_any _).mono ?_
  rintro z w' ⟨rfl, rfl⟩
  go_wp2_with fail
  go_ret
  exact ⟨rfl, rfl⟩
set_option maxRecDepth 100000 in
set_option maxHeartbeats 4000000 in
theorem lawWhole_023 (x : Nat) (n : Int) (w : World) {y lo hi : Nat} {a e b f c want : Int} {isA isB : Bool} (F : WholeFacts x n y lo hi a e b f c want isA isB) (hA : isA = false ∧ e = 15 ∧ a = 0) (hC : CeilKind x b f want isB 2) (hD : CmpKind x lo hi c 3) :
    Calls Try.prog 6 #[.float .f64 x, .int .i64 n] w fun e w' => e = .returned (.bool true) ∧ w = w' := by
  have num := F.num
  have neg := F.neg
  obtain ⟨rfl, rfl, rfl⟩ := hA
  cases hC with
  | none ck1 ck2 ck3 ck4 ck5 =>
  subst ck2; subst ck4; subst ck5
  cases hD with
  | above hc a1 a2 a3 a5 a8 =>
  subst hc
  go_enter Try.func6, Try.ntmps6
  go_wp2_with fail
  refine (F.floor _).mono ?_
  rintro z w' ⟨rfl, rfl⟩
  go_wp2_with fail
  refine (F.ceil _).mono ?_
  rintro z w' ⟨rfl, rfl⟩
  go_wp2_with fail
  refine (F.cmp _).mono ?_
  rintro z w' ⟨rfl, rfl⟩
  go_wp2_with fail
  refine (F.ref _).mono ?_
  rintro z w' ⟨rfl, rfl⟩
  go_wp2_with fail
  refine (F.ref2 _).mono ?_
  rintro z w' ⟨rfl, rfl⟩
  go_wp2_with fail
  refine (F.up _).mono ?_
  rintro z w' ⟨rfl, rfl⟩
  go_wp2_with fail
  refine (F.down _).mono ?_
  rintro z w' ⟨rfl, rfl⟩
  go_wp2_with fail
  refine (F.down _).mono ?_
  rintro z w' ⟨rfl, rfl⟩
  go_wp2_with fail
  refine (F.down _).mono ?_
  rintro z w' ⟨rfl, rfl⟩
  go_wp2_with fail
  refine (F.down _).mono ?_
  rintro z w' ⟨rfl, rfl⟩
  go_wp2_with fail
  refine (F.up _).mono ?_
  rintro z w' ⟨rfl, rfl⟩
  go_wp2_with fail
  refine (lives_any _).mono ?_
  rintro z w' ⟨rfl, rfl⟩
  go_wp2_with fail
  go_ret
  exact ⟨rfl, rfl⟩
set_option maxRecDepth 100000 in
set_option maxHeartbeats 4000000 in
theorem lawWhole_030 (x : Nat) (n : Int) (w : World) {y lo hi : Nat} {a e b f c want : Int} {isA isB : Bool} (F : WholeFacts x n y lo hi a e b f c want isA isB) (hA : isA = false ∧ e = 15 ∧ a = 0) (hC : CeilKind x b f want isB 3) (hD : CmpKind x lo hi c 0) :
    Calls Try.prog 6 #[.float .f64 x, .int .i64 n] w fun e w' => e = .returned (.bool true) ∧ w = w' := by
  have num := F.num
  have neg := F.neg
  obtain ⟨rfl, rfl, rfl⟩ := hA
  cases hC with
  | top ck1 ck2 ck3 ck4 ck5 =>
  subst ck2; subst ck4; subst ck5
  cases hD with
  | same hc a1 a2 a3 a4 a5 a6 =>
  subst hc
  go_enter Try.func6, Try.ntmps6
  go_wp2_with fail
  refine (F.floor _).mono ?_
  rintro z w' ⟨rfl, rfl⟩
  go_wp2_with fail
  refine (F.ceil _).mono ?_
  rintro z w' ⟨rfl, rfl⟩
  go_wp2_with fail
  refine (F.cmp _).mono ?_
  rintro z w' ⟨rfl, rfl⟩
  go_wp2_with fail
  refine (F.ref _).mono ?_
  rintro z w' ⟨rfl, rfl⟩
  go_wp2_with fail
  refine (F.ref2 _).mono ?_
  rintro z w' ⟨rfl, rfl⟩
  go_wp2_with fail
  refine (F.up _).mono ?_
  rintro z w' ⟨rfl, rfl⟩
  go_wp2_with fail
  refine (F.down _).mono ?_
  rintro z w' ⟨rfl, rfl⟩
  go_wp2_with fail
  refine (F.down _).mono ?_
  rintro z w' ⟨rfl, rfl⟩
  go_wp2_with fail
  refine (F.up _).mono ?_
  rintro z w' ⟨rfl, rfl⟩
  go_wp2_with fail
  refine (F.down _).mono ?_
  rintro z w' ⟨rfl, rfl⟩
  go_wp2_with fail
  refine (F.up _).mono ?_
  rintro z w' ⟨rfl, rfl⟩
  go_wp2_with fail
  refine (lives_any _).mono ?_
  rintro z w' ⟨rfl, rfl⟩
  go_wp2_with fail
  go_ret
  exact ⟨rfl, rfl⟩
set_option maxRecDepth 100000 in
set_option maxHeartbeats 4000000 in
theorem lawWhole_031 (x : Nat) (n : Int) (w : World) {y lo hi : Nat} {a e b f c want : Int} {isA isB : Bool} (F : WholeFacts x n y lo hi a e b f c want isA isB) (hA : isA = false ∧ e = 15 ∧ a = 0) (hC : CeilKind x b f want isB 3) (hD : CmpKind x lo hi c 1) :
    Calls Try.prog 6 #[.float .f64 x, .int .i64 n] w fun e w' => e = .returned (.bool true) ∧ w = w' := by
  have num := F.num
  have neg := F.neg
  obtain ⟨rfl, rfl, rfl⟩ := hA
  cases hC with
  | top ck1 ck2 ck3 ck4 ck5 =>
  subst ck2; subst ck4; subst ck5
  cases hD with
  | below1 hc a1 a3 a4 a5 a6 =>
  subst hc
  go_enter Try.func6, Try.ntmps6
  go_wp2_with fail
  refine (F.floor _).mono ?_
  rintro z w' ⟨rfl, rfl⟩
  go_wp2_with fail
  refine (F.ceil _).mono ?_
  rintro z w' ⟨rfl, rfl⟩
  go_wp2_with fail
  refine (F.cmp _).mono ?_
  rintro z w' ⟨rfl, rfl⟩
  go_wp2_with fail
  refine (F.ref _).mono ?_
  rintro z w' ⟨rfl, rfl⟩
  go_wp2_with fail
  refine (F.ref2 _).mono ?_
  rintro z w' ⟨rfl, rfl⟩
  go_wp2_with fail
  refine (F.up _).mono ?_
  rintro z w' ⟨rfl, rfl⟩
  go_wp2_with fail
  refine (F.down _).mono ?_
  rintro z w' ⟨rfl, rfl⟩
  go_wp2_with fail
  refine (F.up _).mono ?_
  rintro z w' ⟨rfl, rfl⟩
  go_wp2_with fail
  refine (F.down _).mono ?_
  rintro z w' ⟨rfl, rfl⟩
  go_wp2_with fail
  refine (F.up _).mono ?_
  rintro z w' ⟨rfl, rfl⟩
  go_wp2_with fail
  refine (F.down _).mono ?_
  rintro z w' ⟨rfl, rfl⟩
  go_wp2_with fail
  refine (lives_any _).mono ?_
  rintro z w' ⟨rfl, rfl⟩
  go_wp2_with fail
  go_ret
  exact ⟨rfl, rfl⟩
set_option maxRecDepth 100000 in
set_option maxHeartbeats 4000000 in
theorem lawWhole_032 (x : Nat) (n : Int) (w : World) {y lo hi : Nat} {a e b f c want : Int} {isA isB : Bool} (F : WholeFacts x n y lo hi a e b f c want isA isB) (hA : isA = false ∧ e = 15 ∧ a = 0) (hC : CeilKind x b f want isB 3) (hD : CmpKind x lo hi c 2) :
    Calls Try.prog 6 #[.float .f64 x, .int .i64 n] w fun e w' => e = .returned (.bool true) ∧ w = w' := by
  have num := F.num
  have neg := F.neg
  obtain ⟨rfl, rfl, rfl⟩ := hA
  cases hC with
  | top ck1 ck2 ck3 ck4 ck5 =>
  subst ck2; subst ck4; subst ck5
  cases hD with
  | below0 hc a1 a3 a4 a5 a7 =>
  subst hc
  go_enter Try.func6, Try.ntmps6
  go_wp2_with fail
  refine (F.floor _).mono ?_
  rintro z w' ⟨rfl, rfl⟩
  go_wp2_with fail
  refine (F.ceil _).mono ?_
  rintro z w' ⟨rfl, rfl⟩
  go_wp2_with fail
  refine (F.cmp _).mono ?_
  rintro z w' ⟨rfl, rfl⟩
  go_wp2_with fail
  refine (F.ref _).mono ?_
  rintro z w' ⟨rfl, rfl⟩
  go_wp2_with fail
  refine (F.ref2 _).mono ?_
  rintro z w' ⟨rfl, rfl⟩
  go_wp2_with fail
  refine (F.up _).mono ?_
  rintro z w' ⟨rfl, rfl⟩
  go_wp2_with fail
  refine (F.down _).mono ?_
  rintro z w' ⟨rfl, rfl⟩
  go_wp2_with fail
  refine (F.up _).mono ?_
  rintro z w' ⟨rfl, rfl⟩
  go_wp2_with fail
  refine (F.down _).mono ?_
  rintro z w' ⟨rfl, rfl⟩
  go_wp2_with fail
  refine (F.down _).mono ?_
  rintro z w' ⟨rfl, rfl⟩
  go_wp2_with fail
  refine (lives_any _).mono ?_
  rintro z w' ⟨rfl, rfl⟩
  go_wp2_with fail
  go_ret
  exact ⟨rfl, rfl⟩
set_option maxRecDepth 100000 in
set_option maxHeartbeats 4000000 in
theorem lawWhole_033 (x : Nat) (n : Int) (w : World) {y lo hi : Nat} {a e b f c want : Int} {isA isB : Bool} (F : WholeFacts x n y lo hi a e b f c want isA isB) (hA : isA = false ∧ e = 15 ∧ a = 0) (hC : CeilKind x b f want isB 3) (hD : CmpKind x lo hi c 3) :
    Calls Try.prog 6 #[.float .f64 x, .int .i64 n] w fun e w' => e = .returned (.bool true) ∧ w = w' := by
  have num := F.num
  have neg := F.neg
  obtain ⟨rfl, rfl, rfl⟩ := hA
  cases hC with
  | top ck1 ck2 ck3 ck4 ck5 =>
  subst ck2; subst ck4; subst ck5
  cases hD with
  | above hc a1 a2 a3 a5 a8 =>
  subst hc
  go_enter Try.func6, Try.ntmps6
  go_wp2_with fail
  refine (F.floor _).mono ?_
  rintro z w' ⟨rfl, rfl⟩
  go_wp2_with fail
  refine (F.ceil _).mono ?_
  rintro z w' ⟨rfl, rfl⟩
  go_wp2_with fail
  refine (F.cmp _).mono ?_
  rintro z w' ⟨rfl, rfl⟩
  go_wp2_with fail
  refine (F.ref _).mono ?_
  rintro z w' ⟨rfl, rfl⟩
  go_wp2_with fail
  refine (F.ref2 _).mono ?_
  rintro z w' ⟨rfl, rfl⟩
  go_wp2_with fail
  refine (F.up _).mono ?_
  rintro z w' ⟨rfl, rfl⟩
  go_wp2_with fail
  refine (F.down _).mono ?_
  rintro z w' ⟨rfl, rfl⟩
  go_wp2_with fail
  refine (F.down _).mono ?_
  rintro z w' ⟨rfl, rfl⟩
  go_wp2_with fail
  refine (F.down _).mono ?_
  rintro z w' ⟨rfl, rfl⟩
  go_wp2_with fail
  refine (F.down _).mono ?_
  rintro z w' ⟨rfl, rfl⟩
  go_wp2_with fail
  refine (F.up _).mono ?_
  rintro z w' ⟨rfl, rfl⟩
  go_wp2_with fail
  refine (lives_any _).mono ?_
  rintro z w' ⟨rfl, rfl⟩
  go_wp2_with fail
  go_ret
  exact ⟨rfl, rfl⟩
end Go.Proofs.Ytadnehnhgnfclaa
