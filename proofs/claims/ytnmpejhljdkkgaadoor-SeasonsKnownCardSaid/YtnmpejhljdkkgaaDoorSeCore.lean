/-
  DERIVED. What package seasons gives, as structures of contracts; the statements' own functions. Written by mkse.py.
-/
import Derived.Test.YtnmpejhljdkkgaaDoorSeRef
namespace Go.Proofs.YtnmpejhljdkkgaaDoor
open Go.RowKit
set_option maxRecDepth 100000

def chkS (c : Int) : Int := if manyI c = 0 then 7 else 0
/-- a slice of numbers -/
def SlI (W : World) (v : Value) (L : List Int) (k : Nat) : Prop :=
  (L = [] ∧ ∃ p, v = .slice p 0 k) ∨ ∃ g o, v = .slice (some ⟨g, o, none⟩) L.length k ∧ g < W.heap.size ∧ L.length ≤ 1000 ∧ ∀ j, j < L.length → W.cell? ⟨g, o + j, none⟩ = some (.int .i64 (L.getD j 0))
theorem SlI.step {W W' : World} {v : Value} {L : List Int} {k : Nat} (h : SlI W v L k) (hb : Below W.heap.size W W') : SlI W' v L k := by
  rcases h with h | ⟨g, o, e, hg, hl, hc⟩
  · exact .inl h
  · exact .inr ⟨g, o, e, by have := hb.size; omega, hl, fun j hj => by rw [hb.cell (p := ⟨g, o + j, none⟩) hg]; exact hc j hj⟩
/-- the codes whose run has the day, for a day of year y -/
def codesL (y d : Int) : List Int := ([21, 22, 23, 24, 25, 26, 27, 28, 29, 30, 31, 32, 33, 34, 35, 36, 37, 38, 39, 40, 41] : List Int).filter fun c => ofB y c d
/-- what package seasons gives -/
structure SeaCore (I : World → Prop) : Prop where
  keep : ∀ {w w' : World}, I w → Below w.heap.size w w' → I w'
  check : ∀ {c e : Int} (w : World), I w → -9223372036854775808 ≤ c → c ≤ 9223372036854775807 → chkS c = e → Calls Tryd.prog 9 #[.int .i64 c] w fun x w' => x = .returned (.int .i64 e) ∧ Below w.heap.size w w'
  months : ∀ {c f m e : Int} (w : World), I w → -9223372036854775808 ≤ c → c ≤ 9223372036854775807 → fromI c = f → manyI c = m → chkS c = e → Calls Tryd.prog 7 #[.int .i64 c] w fun x w' => x = .returned (.tuple #[.int .i64 f, .int .i64 m, .int .i64 e]) ∧ Below w.heap.size w w'
  run : ∀ {y c e : Int} {r : Value} (w : World), I w → -9223372036854775808 ≤ y → y ≤ 9223372036854775807 → -9223372036854775808 ≤ c → c ≤ 9223372036854775807 → runE y c = e → runR y c = r → Calls Tryd.prog 10 #[.int .i64 y, .int .i64 c] w fun x w' => x = .returned (.tuple #[r, .int .i64 e]) ∧ Below w.heap.size w w'
  of_code : ∀ {d c : Int} (w : World), I w → -9223372036854775808 ≤ d → d ≤ 9223372036854775807 → -9223372036854775808 ≤ c → c ≤ 9223372036854775807 → manyI c = 0 → Calls Tryd.prog 14 #[.int .i64 d, .int .i64 c] w fun x w' => x = .returned (.tuple #[.int .i64 0, .bool false, .int .i64 7]) ∧ Below w.heap.size w w'
  of_out : ∀ {y d c : Int} (w : World), I w → -9223372036854775808 ≤ d → d ≤ 9223372036854775807 → -9223372036854775808 ≤ c → c ≤ 9223372036854775807 → ¬ manyI c = 0 → YearHas y d → isY y = false → Calls Tryd.prog 14 #[.int .i64 d, .int .i64 c] w fun x w' => x = .returned (.tuple #[.int .i64 0, .bool false, .int .i64 6]) ∧ Below w.heap.size w w'
  of_in : ∀ {y d c z : Int} {b : Bool} (w : World), I w → -9223372036854775808 ≤ d → d ≤ 9223372036854775807 → -9223372036854775808 ≤ c → c ≤ 9223372036854775807 → ¬ manyI c = 0 → YearHas y d → isY y = true → ofY y c d = z → ofB y c d = b → Calls Tryd.prog 14 #[.int .i64 d, .int .i64 c] w fun x w' => x = .returned (.tuple #[.int .i64 z, .bool b, .int .i64 0]) ∧ Below w.heap.size w w'
  codes_out : ∀ {y d : Int} (w : World), I w → -9223372036854775808 ≤ d → d ≤ 9223372036854775807 → YearHas y d → isY y = false → Calls Tryd.prog 15 #[.int .i64 d] w fun x w' => ∃ p k, x = .returned (.tuple #[.slice p 0 k, .int .i64 6]) ∧ Below w.heap.size w w'
  codes_in : ∀ {y d : Int} {L : List Int} (w : World), I w → -9223372036854775808 ≤ d → d ≤ 9223372036854775807 → YearHas y d → isY y = true → codesL y d = L → Calls Tryd.prog 15 #[.int .i64 d] w fun x w' => ∃ v, SlI w' v L L.length ∧ x = .returned (.tuple #[v, .int .i64 0]) ∧ Below w.heap.size w w'
structure SeaFns (I : World → Prop) : Prop extends SeaCore I where
  lives : ∀ (w : World), I w → Calls Tryd.prog 13 #[] w fun e w' => e = .returned (.bool true) ∧ Below w.heap.size w w'
/-- a run in a block, as every world of a walk has it -/
structure Rb (w : World) (g : Nat) (a b : Int) (W : World) : Prop where
  below : Below w.heap.size w W
  size : g < W.heap.size
  c0 : W.cell? ⟨g, 0, none⟩ = some (.int .i8 0)
  c1 : W.cell? ⟨g, 1, none⟩ = some (.int .i64 a)
  c2 : W.cell? ⟨g, 2, none⟩ = some (.int .i8 0)
  c3 : W.cell? ⟨g, 3, none⟩ = some (.int .i64 b)
theorem Rb.step {w W W' : World} {g : Nat} {a b : Int} (h : Rb w g a b W) (hb : Below W.heap.size W W') : Rb w g a b W' :=
  ⟨h.below.trans (hb.mono h.below.size), by have := hb.size; have := h.size; omega, by rw [hb.cell (p := ⟨g, 0, none⟩) h.size]; exact h.c0, by rw [hb.cell (p := ⟨g, 1, none⟩) h.size]; exact h.c1,
   by rw [hb.cell (p := ⟨g, 2, none⟩) h.size]; exact h.c2, by rw [hb.cell (p := ⟨g, 3, none⟩) h.size]; exact h.c3⟩
theorem rb_new {w W : World} (a b : Int) (t : TypeId) (hb : Below w.heap.size w W) : Rb w W.heap.size a b (W.alloc (.cells #[.int .i8 0, .int .i64 a, .int .i8 0, .int .i64 b] t)) :=
  ⟨hb.alloc hb.size _, by simp, by rw [World.cell?_alloc_new]; rfl, by rw [World.cell?_alloc_new]; rfl, by rw [World.cell?_alloc_new]; rfl, by rw [World.cell?_alloc_new]; rfl⟩
theorem run_ok (a b : Int) (w : World) : Calls Tryd.prog 12 #[.agg #[.int .i8 0, .int .i64 a, .int .i8 0, .int .i64 b], .int .i64 0, .agg #[.int .i8 0, .int .i64 a, .int .i8 0, .int .i64 b], .int .i64 0] w fun e w' => e = .returned (.bool true) ∧ Below w.heap.size w w' := by
  have HB := Kp.mk (((Below.refl w.heap.size w).alloc (Nat.le_refl _) (.cells #[.int .i8 0, .int .i64 a, .int .i8 0, .int .i64 b] 32)).alloc (by simp) (.cells #[.int .i8 0, .int .i64 a, .int .i8 0, .int .i64 b] 32))
  go_enter Tryd.func12, Tryd.ntmps12
  go_wp2_with fail
  go_ret
  exact ⟨rfl, HB.out⟩
theorem run_bad {e : Int} (h : ¬ e = 0) (a b : Int) (w : World) : Calls Tryd.prog 12 #[.agg #[.int .i8 0, .int .i64 0, .int .i8 0, .int .i64 0], .int .i64 e, .agg #[.int .i8 0, .int .i64 a, .int .i8 0, .int .i64 b], .int .i64 e] w fun e w' => e = .returned (.bool true) ∧ Below w.heap.size w w' := by
  have HB := Kp.mk (((Below.refl w.heap.size w).alloc (Nat.le_refl _) (.cells #[.int .i8 0, .int .i64 0, .int .i8 0, .int .i64 0] 32)).alloc (by simp) (.cells #[.int .i8 0, .int .i64 a, .int .i8 0, .int .i64 b] 32))
  have t : (e != 0) = true := by rw [bne_iff_ne]; exact h
  clear h
  go_enter Tryd.func12, Tryd.ntmps12
  go_wp2_with fail
  go_ret
  exact ⟨rfl, HB.out⟩
theorem run_law {y c lo hi e : Int} (h : RunIs y c lo hi e) (w : World) : Calls Tryd.prog 12 #[.agg #[.int .i8 0, .int .i64 lo, .int .i8 0, .int .i64 hi], .int .i64 e, .agg #[.int .i8 0, .int .i64 lo, .int .i8 0, .int .i64 hi], .int .i64 e] w fun e w' => e = .returned (.bool true) ∧ Below w.heap.size w w' := by
  by_cases h0 : e = 0
  · subst h0; exact run_ok lo hi w
  · have hv := h.val
    unfold runR at hv
    rw [h.err, if_neg h0] at hv
    simp at hv
    rw [← hv.1, ← hv.2]
    exact run_bad h0 0 0 w
theorem days_is (a b : Int) (w : World) :
    Calls Tryd.prog 27 #[.int .i64 a, .int .i64 b] w fun e w' => e = .returned (.agg #[.int .i8 0, .int .i64 a, .int .i8 0, .int .i64 b]) ∧ Below w.heap.size w w' := by
  go_enter Tryd.func27, Tryd.ntmps27
  go_wp2_with fail
  refine bodyPost_ret (results_cell_row (p := 4) (ty := 32) rfl _ _ w.heap.size 32 #[.int .i8 0, .int .i64 a, .int .i8 0, .int .i64 b] (0, 0) _ rfl (heap_alloc_new _ _) Tryd.underlying32 rfl infoRun) rfl ?_
  exact ⟨rfl, (Below.refl w.heap.size w).alloc (Nat.le_refl _) _⟩
set_option maxHeartbeats 1000000 in
theorem list_is {L : List Int} {v u : Value} {k : Nat} (w : World) (h1 : SlI w v L L.length) (h2 : SlI w u L k) : Calls Tryd.prog 18 #[v, u] w fun e w' => e = .returned (.bool true) ∧ Below w.heap.size w w' := by
  rcases h1 with ⟨rfl, p, rfl⟩ | ⟨g, o, rfl, hg, hl, hc⟩
  · rcases h2 with ⟨_, q, rfl⟩ | ⟨g', o', rfl, _, _, _⟩
    · go_enter Tryd.func18, Tryd.ntmps18
      go_wp2_with fail
      go_loop [5] (fun i => i = .int .i64 0) (fun _ => 0)
      case atStart => rfl
      case round =>
        obtain rfl := hrel
        go_wp2_with fail
        go_ret
        exact ⟨rfl, Below.refl _ _⟩
    · go_enter Tryd.func18, Tryd.ntmps18
      go_wp2_with fail
      go_loop [5] (fun i => i = .int .i64 0) (fun _ => 0)
      case atStart => rfl
      case round =>
        obtain rfl := hrel
        go_wp2_with fail
        go_ret
        exact ⟨rfl, Below.refl _ _⟩
  · rcases h2 with ⟨e0, q, rfl⟩ | ⟨g', o', rfl, hg', _, hc'⟩
    · subst e0
      go_enter Tryd.func18, Tryd.ntmps18
      go_wp2_with fail
      go_loop [5] (fun i => i = .int .i64 0) (fun _ => 0)
      case atStart => rfl
      case round =>
        obtain rfl := hrel
        go_wp2_with fail
        go_ret
        exact ⟨rfl, Below.refl _ _⟩
    · have HC := Kp.mk (fun (W : World) (hb : Below w.heap.size w W) j (hj : j < L.length) => show W.cell? ⟨g, o + j, none⟩ = some (.int .i64 (L.getD j 0)) by rw [hb.cell (p := ⟨g, o + j, none⟩) hg]; exact hc j hj)
      have HC2 := Kp.mk (fun (W : World) (hb : Below w.heap.size w W) j (hj : j < L.length) => show W.cell? ⟨g', o' + j, none⟩ = some (.int .i64 (L.getD j 0)) by rw [hb.cell (p := ⟨g', o' + j, none⟩) hg']; exact hc' j hj)
      have HB := Kp.mk (Below.refl w.heap.size w)
      generalize hn : L.length = n at *
      clear hc hc' hn hg hg'
      go_enter Tryd.func18, Tryd.ntmps18
      go_wp2_with fail
      go_loopw [5] (fun i wr => ∃ j : Nat, j ≤ n ∧ i = .int .i64 j ∧ Kp (Below w.heap.size w wr)) (fun i _ => n - (intOf i).toNat)
      case atStart => exact ⟨0, by omega, rfl, HB⟩
      case round =>
        obtain ⟨j, hj, rfl, HB⟩ := hrel
        by_cases hlt : j < n
        · have k1 := HC.out wr HB.out j hlt
          have k2 := HC2.out wr HB.out j hlt
          have w1 : IntKind.i64.wrap ((j : Int) + 1) = (j : Int) + 1 := IntWalk.i64_in _ (by omega)
          generalize L.getD j 0 = x at *
          go_upto_region 6 with fail
          go_quiet (fail)
          generalize hwq : World.drewN wr _ = wq
          have HB := Kp.mk (show Below w.heap.size w wq by rw [← hwq]; exact below_drewN HB.out _)
          clear hwq
          go_wp2_with fail
          go_roundw
          case rel => exact ⟨j + 1, by omega, by go_num, HB⟩
          case measure => simp [intOf]; omega
        · obtain rfl : j = n := by omega
          go_wp2_with fail
          go_ret
          exact ⟨rfl, HB.out⟩
end Go.Proofs.YtnmpejhljdkkgaaDoor
