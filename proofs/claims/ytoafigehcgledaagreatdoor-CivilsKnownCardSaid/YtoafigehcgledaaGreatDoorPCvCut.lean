/-
  DERIVED. CONTRACTS of package civils: cut, year, the deferred closure of Parse.
-/
import Derived.Test.YtoafigehcgledaaGreatDoorPCvNumW
namespace Go.Proofs.YtoafigehcgledaaGreatDoor
open Go.RowKit
set_option maxRecDepth 100000

theorem dCutP_yes {l p : List UInt8} (h : l = 45 :: p) (w : World) :
    Calls Tryz.prog 78 #[.string (bs l), .string ⟨#[45]⟩] w fun e w' => e = .returned (.tuple #[.string (bs p), .bool true]) ∧ w' = w := by
  have := Tryz.strings_CutPrefix (bs l) ⟨#[45]⟩ w
  rw [bs_toList, h, show (⟨#[45]⟩ : ByteArray).data.toList = [45] from rfl, trimPrefix_minus, show Lib.hasPrefix (45 :: p) [45] = true from by simp [Lib.hasPrefix, List.isPrefixOf]] at this
  rw [h]
  exact this
theorem dCutP_no {l : List UInt8} (h : ¬ ∃ p, l = 45 :: p) (w : World) :
    Calls Tryz.prog 78 #[.string (bs l), .string ⟨#[45]⟩] w fun e w' => e = .returned (.tuple #[.string (bs l), .bool false]) ∧ w' = w := by
  have := Tryz.strings_CutPrefix (bs l) ⟨#[45]⟩ w
  have h1 : Lib.hasPrefix l [45] = false := by
    match l, h with
    | [], _ => rfl
    | c :: r, h =>
      have hc : ¬ c = 45 := fun e => h ⟨r, by rw [e]⟩
      simp [Lib.hasPrefix, List.isPrefixOf]
      exact fun e => hc e.symm
  have h2 : Lib.trimPrefix l [45] = l := by unfold Lib.trimPrefix; rw [h1]; rfl
  rw [bs_toList, show (⟨#[45]⟩ : ByteArray).data.toList = [45] from rfl, h1, h2] at this
  exact this
set_option maxHeartbeats 1000000 in
theorem cut_yes {l z p : List UInt8} {k : Nat} (hl : l.length ≤ 1000) (hk : l.length - 3 = k) (hz : l.take k = z) (hp : l.drop k = 45 :: p) (g : Nat) (w : World) (hc : w.cell? ⟨g, 0, none⟩ = some (.string (bs l))) (hf : w.frozen? ⟨g, 0, none⟩ = false) :
    Calls Tryz.prog 50 #[.pointer (some ⟨g, 0, none⟩)] w fun e w' => e = .returned (.string (bs p)) ∧ w' = w.setCell ⟨g, 0, none⟩ (.string (bs z)) := by
  have w1 : IntKind.i64.wrap (((bs l).size : Int) - 2) = ((bs l).size : Int) - 2 := IntWalk.i64_in _ (by rw [bs_size]; omega)
  have w2 : IntKind.i64.wrap (((bs l).size : Int) - 2 - 1) = ((bs l).size : Int) - 2 - 1 := IntWalk.i64_in _ (by rw [bs_size]; omega)
  have w3 : max (0 : Int) (((bs l).size : Int) - 2 - 1) = (k : Int) := by rw [bs_size]; omega
  have s1 := fun W => from_bs (l := l) (i := k) (by omega) W
  have s2 := fun W => to_bs (l := l) (i := k) (by omega) W
  rw [hz] at s2
  have r1 := Kp.mk (fun w => dCutP_yes hp w)
  clear hl hk hz hp
  go_enter Tryz.func50, Tryz.ntmps50
  go_wp2_with fail
  refine (r1.out _).mono ?_
  rintro e w' ⟨rfl, rfl⟩
  go_wp2_with fail
  go_ret
  exact ⟨rfl, rfl⟩
set_option maxHeartbeats 1000000 in
theorem cut_no {l : List UInt8} {k : Nat} (hl : l.length ≤ 1000) (hk : l.length - 3 = k) (hp : ¬ ∃ p, l.drop k = 45 :: p) (g : Nat) (w : World) (hc : w.cell? ⟨g, 0, none⟩ = some (.string (bs l))) :
    Calls Tryz.prog 50 #[.pointer (some ⟨g, 0, none⟩)] w fun e w' => e = pan 5 ∧ w = w' := by
  have w1 : IntKind.i64.wrap (((bs l).size : Int) - 2) = ((bs l).size : Int) - 2 := IntWalk.i64_in _ (by rw [bs_size]; omega)
  have w2 : IntKind.i64.wrap (((bs l).size : Int) - 2 - 1) = ((bs l).size : Int) - 2 - 1 := IntWalk.i64_in _ (by rw [bs_size]; omega)
  have w3 : max (0 : Int) (((bs l).size : Int) - 2 - 1) = (k : Int) := by rw [bs_size]; omega
  have s1 := fun W => from_bs (l := l) (i := k) (by omega) W
  have r1 := Kp.mk (fun w => dCutP_no hp w)
  have r2 := Kp.mk (fun w => throw_is (c := 5) (by decide) w)
  clear hl hk hp
  go_enter Tryz.func50, Tryz.ntmps50
  go_wp2_with fail
  refine (r1.out _).mono ?_
  rintro e w' ⟨rfl, rfl⟩
  go_wp2_with fail
  refine (r2.out _).mono ?_
  rintro e w' ⟨rfl, rfl⟩
  go_wp2_with fail
  exact ⟨rfl, rfl, rfl⟩
set_option maxHeartbeats 1000000 in
theorem year_ret {l sg dg : List UInt8} {v : Int} (hp : Parted l sg dg) (hl : l.length ≤ 1000) (w : World)
    (hn : ∀ W, Calls Tryz.prog 51 #[.string (bs sg), .string (bs dg), .int .i64 4] W fun e w' => e = .returned (.int .i64 v) ∧ Below W.heap.size W w') :
    Calls Tryz.prog 52 #[.string (bs l)] w fun e w' => e = .returned (.int .i64 v) ∧ Below w.heap.size w w' := by
  have r1 := Kp.mk (fun w => signed_is hp hl w)
  have r2 := Kp.mk hn
  clear hp hl hn
  go_enter Tryz.func52, Tryz.ntmps52
  go_wp2_with fail
  refine (r1.out _).mono ?_
  rintro e w' ⟨rfl, rfl⟩
  go_wp2_with fail
  refine (r2.out _).mono ?_
  rintro e w2 ⟨rfl, hb⟩
  go_wp2_with fail
  go_ret
  exact ⟨rfl, hb⟩
set_option maxHeartbeats 1000000 in
theorem year_pan {l sg dg : List UInt8} {c : Int} (hp : Parted l sg dg) (hl : l.length ≤ 1000) (w : World)
    (hn : ∀ W, Below w.heap.size w W → Calls Tryz.prog 51 #[.string (bs sg), .string (bs dg), .int .i64 4] W fun e w' => e = pan c ∧ Below W.heap.size W w') :
    Calls Tryz.prog 52 #[.string (bs l)] w fun e w' => e = pan c ∧ Below w.heap.size w w' := by
  have r1 := Kp.mk (fun w => signed_is hp hl w)
  have r2 := Kp.mk hn
  have HB := Kp.mk (Below.refl w.heap.size w)
  clear hp hl hn
  go_enter Tryz.func52, Tryz.ntmps52
  go_wp2_with fail
  refine (r1.out _).mono ?_
  rintro e w' ⟨rfl, rfl⟩
  go_wp2_with fail
  refine (r2.out _ HB.out).mono ?_
  rintro e w2 ⟨rfl, hb⟩
  go_wp2_with fail
  exact ⟨rfl, rfl, hb⟩
theorem assert_yes (c : Int) (w : World) : (Instr.typeAssert (.iface 24 (.int .i64 c)) 20 24 true).run Tryz.prog w = .ok (.tuple #[.int .i64 c, .bool true]) w := by kernel_rfl
theorem assert_nil (w : World) : (Instr.typeAssert .nilIface 20 24 true).run Tryz.prog w = .ok (.tuple #[.int .i64 0, .bool false]) w := by kernel_rfl
set_option maxHeartbeats 1000000 in
theorem catch_panicking {c : Int} (g k : Nat) (older : List PanicEntry) (w : World) {y m d e : Int} (c0 : w.cell? ⟨g, 0, none⟩ = some (.int .i64 y)) (c1 : w.cell? ⟨g, 1, none⟩ = some (.int .i64 m)) (c2 : w.cell? ⟨g, 2, none⟩ = some (.int .i64 d))
    (f0 : w.frozen? ⟨g, 0, none⟩ = false) (f1 : w.frozen? ⟨g, 1, none⟩ = false) (f2 : w.frozen? ⟨g, 2, none⟩ = false) (ce : w.cell? ⟨k, 0, none⟩ = some (.int .i64 e)) (fe : w.frozen? ⟨k, 0, none⟩ = false) (hgk : ¬ k = g) :
    CallsD Tryz.prog 49 #[.pointer (some ⟨g, 0, none⟩), .pointer (some ⟨k, 0, none⟩)] (.panicking ({ v := .iface 24 (.int .i64 c), recovered := false } :: older)) w fun e u' w' =>
      e = .returned (.tuple #[]) ∧ u' = .panicking ({ v := .iface 24 (.int .i64 c), recovered := true } :: older) ∧ w' = (World.set3 w g 0 0 0).setCell ⟨k, 0, none⟩ (.int .i64 c) := by
  refine callsD_of_wpS Tryz.func49 rfl fun c₀ cs hu => ?_
  apply wpS_seq
  apply wpS_region
  simp [wpOpsS, go_sem, recoverD, hu, Tryz.ntmps49, Exit.thenS, assert_yes, Oper.upon]
  apply wpS_seq
  apply wpS_region
  simp [wpOpsS, go_sem, Exit.thenS, Oper.upon]
  refine wpS_cond (t := true) (by simp [Act.eval, Array.replicate]) ?_
  simp only [if_true]
  have e0 : (World.set3 w g 0 0 0).cell? ⟨k, 0, none⟩ = some (.int .i64 e) := by rw [cell_set3 w 0 0 0 0 hgk]; exact ce
  have e1 : (World.set3 w g 0 0 0).frozen? ⟨k, 0, none⟩ = false := by rw [frozen_set3]; exact fe
  unfold World.set3 at e0 e1 ⊢
  apply wpS_region
  simp [wpOpsS, go_sem, Oper.upon, c0, c1, c2, f0, f1, f2, e0, e1, bodyPostS, results, Tryz.results49]
set_option maxHeartbeats 1000000 in
theorem catch_idle (p q : Addr) (w : World) :
    CallsD Tryz.prog 49 #[.pointer (some p), .pointer (some q)] .returning w fun e u' w' => e = .returned (.tuple #[]) ∧ u' = .returning ∧ w' = w := by
  refine callsD_of_wpS Tryz.func49 rfl fun c₀ cs hu => ?_
  apply wpS_seq
  apply wpS_region
  simp [wpOpsS, go_sem, recoverD, hu, Tryz.ntmps49, Exit.thenS, assert_nil, Oper.upon]
  apply wpS_seq
  apply wpS_region
  simp [wpOpsS, go_sem, Exit.thenS, Oper.upon]
  refine wpS_cond (t := false) (by simp [Act.eval, Array.replicate]) ?_
  simp only [Bool.false_eq_true, if_false]
  refine wpS_of_wp (wp_skip ?_)
  cases c₀
  simp_all [bodyPostS, results, Tryz.results49]
end Go.Proofs.YtoafigehcgledaaGreatDoor
