/-
 DERIVED. Bytes and pieces of strings, as facts for every world.
 DERIVED. CONTRACT of the reference of layer 9 (runs): Parse. Written by mkrnrefp.py.
-/
import Derived.Test.YteddfolhpoikcaaGreatDoorPPa
import Derived.Laws.Strings
import Derived.Test.YteddfolhpoikcaaGreatDoorPRf
import Derived.Test.YteddfolhpoikcaaGreatDoorPR1a
namespace Go.Proofs.YteddfolhpoikcaaGreatDoor
open Go.RowKit
set_option maxRecDepth 100000

theorem bs_get {l : List UInt8} {i : Nat} {c : UInt8} (h : l[i]? = some c) : ∃ hi : i < (bs l).size, (bs l)[i] = c := by
 obtain ⟨hi, e⟩ := List.getElem?_eq_some_iff.1 h
 exact ⟨by rw [bs_size]; exact hi, e⟩
theorem idx_bs {l : List UInt8} {i : Nat} {c : UInt8} (h : l[i]? = some c) (w : World) :
 (Instr.index 9 (.string (bs l)) (.int .i64 (i : Int))).run Tryz.prog w = .ok (.int .u8 (c.toNat : Int)) w := by
 obtain ⟨hi, e⟩ := bs_get h
 rw [run_index_string (P := Tryz.prog) w 9 (bs l) .i64 (i : Int) Tryz.underlying9, dif_pos ⟨by omega, by omega⟩]
 simp only [Int.toNat_natCast, e]
theorem ext_bs (l : List UInt8) (i j : Nat) : (bs l).extract i j = bs ((l.take j).drop i) := by
 apply ByteArray.ext
 rw [ByteArray.data_extract]
 show l.toArray.extract i j = ((l.take j).drop i).toArray
 rw [List.extract_toArray]
 rw [List.extract_eq_take_drop, List.drop_take]
theorem from_bs {l : List UInt8} {i : Nat} (h : i ≤ l.length) (w : World) :
 (Instr.slice 9 (.string (bs l)) (some (.int .i64 (i : Int))) none none).run Tryz.prog w = .ok (.string (bs (l.drop i))) w := by
 have hs := bs_size l
 rw [run_slice_string_l (P := Tryz.prog) w 9 (bs l) Tryz.underlying9 .i64 (i : Int) (by omega) (by rw [hs]; omega)]
 rw [Int.toNat_natCast, ext_bs l i _, hs, List.take_length]
theorem to_bs {l : List UInt8} {i : Nat} (h : i ≤ l.length) (w : World) :
 (Instr.slice 9 (.string (bs l)) none (some (.int .i64 (i : Int))) none).run Tryz.prog w = .ok (.string (bs (l.take i))) w := by
 have hs := bs_size l
 rw [run_slice_string_h (P := Tryz.prog) w 9 (bs l) Tryz.underlying9 .i64 (i : Int) (by omega) (by rw [hs]; omega)]
 rw [Int.toNat_natCast, ext_bs l 0 _, List.drop_zero]
end Go.Proofs.YteddfolhpoikcaaGreatDoor
namespace Go.Proofs.YteddfolhpoikcaaGreatDoor
open Go.RowKit
set_option maxRecDepth 100000

/-- the result's block, still zero -/
structure Zr (w W : World) : Prop where
 below : Below w.heap.size w W
 z : W.heap[w.heap.size]? = some (.cells #[.int .i8 0, .int .i64 0, .int .i8 0, .int .i64 0] 26 (0, 0))
theorem Zr.step {w W W' : World} (h : Zr w W) (hb : Below W.heap.size W W') : Zr w W' :=
 ⟨h.below.trans (hb.mono h.below.size), by rw [hb.block _ (Array.getElem?_eq_some_iff.1 h.z).1]; exact h.z⟩
theorem zr_new (w : World) : Zr w (w.alloc (.cells #[.int .i8 0, .int .i64 0, .int .i8 0, .int .i64 0] 26)) := ⟨(Below.refl w.heap.size w).alloc (Nat.le_refl _) _, heap_alloc_new _ _⟩
theorem idx_next {l : List UInt8} {i : Nat} {c : UInt8} (h : l[i + 1]? = some c) (w : World) :
 (Instr.index 9 (.string (bs l)) (.int .i64 ((i : Int) + 1))).run Tryz.prog w = .ok (.int .u8 (c.toNat : Int)) w := idx_bs (i := i + 1) h w
theorem from_two {l : List UInt8} {i : Nat} (h : i + 2 ≤ l.length) (w : World) :
 (Instr.slice 9 (.string (bs l)) (some (.int .i64 ((i : Int) + 2))) none none).run Tryz.prog w = .ok (.string (bs (l.drop (i + 2)))) w := from_bs (i := i + 2) h w
theorem ne46 {c : UInt8} (h : ¬ c = 46) : ((c.toNat : Int) != 46) = true := by rw [bne_iff_ne]; intro e; exact h (UInt8.toNat_inj.1 (by show c.toNat = 46; omega))
set_option maxHeartbeats 4000000 in
theorem refRPar_no {l : List UInt8} (hl : l.length ≤ 900) (h : NoCut l) (w : World) :
 Calls Tryz.prog 35 #[.string (bs l)] w fun x w' => x = .returned (.tuple #[.agg #[.int .i8 0, .int .i64 0, .int .i8 0, .int .i64 0], .int .i64 5]) ∧ Below w.heap.size w w' := by
 have HZ := Kp.mk (zr_new w)
 have HN := Kp.mk h
 obtain ⟨n, hn⟩ : ∃ n, l.length = n := ⟨_, rfl⟩
 clear h
 go_enter Tryz.func35, Tryz.ntmps35
 go_upto_region 2 with fail
 generalize w.alloc (.cells #[.int .i8 0, .int .i64 0, .int .i8 0, .int .i64 0] 26) = w0 at *
 go_wp2_with fail
 go_loop [4] (fun a => ∃ k : Nat, k ≤ n ∧ a = .int .i64 k) (fun a => n - (intOf a).toNat)
 case atStart => exact ⟨0, by omega, rfl⟩
 case round =>
  obtain ⟨k, hk, rfl⟩ := hrel
  by_cases hlt : k + 1 < n
  ·have hk1 : k + 1 < l.length := by omega
   obtain ⟨c, hc⟩ : ∃ c, l[k]? = some c := ⟨_, List.getElem?_eq_getElem (by omega)⟩
   obtain ⟨c', hc'⟩ : ∃ c, l[k + 1]? = some c := ⟨_, List.getElem?_eq_getElem hk1⟩
   have i1 := idx_bs hc
   have i2 := idx_next hc'
   have w1 : IntKind.i64.wrap ((k : Int) + 1) = (k : Int) + 1 := IntWalk.i64_in _ (by omega)
   have hsz : (bs l).size = n := by rw [bs_size]; exact hn
   have td : decide ((k : Int) + 1 < (n : Int)) = true := decide_eq_true (by omega)
   have td2 : (k : Int) + 1 < (n : Int) := by omega
   by_cases x1 : c = 46
   ·subst x1
    have x2 : ¬ c' = 46 := fun e => (fun i _ => HN.1 i) k (by omega) ⟨hc, by rw [hc', e]⟩
    have t1 : (((46 : UInt8).toNat : Int) != 46) = false := by decide
    have t2 := ne46 x2
    generalize bs l = s at *
    generalize c'.toNat = m2 at *
    clear hc hc' x2 hk1
    go_wp2_with fail
    go_round
    case rel => exact ⟨k + 1, by omega, by go_num⟩
    case measure => simp [intOf]; omega
   ·have t1 := ne46 x1
    generalize bs l = s at *
    generalize c.toNat = m1 at *
    clear hc hc' x1 i2 hk1
    go_wp2_with fail
    go_round
    case rel => exact ⟨k + 1, by omega, by go_num⟩
    case measure => simp [intOf]; omega
  ·have w1 : IntKind.i64.wrap ((k : Int) + 1) = (k : Int) + 1 := IntWalk.i64_in _ (by omega)
   have hsz : (bs l).size = n := by rw [bs_size]; exact hn
   have td : decide ((k : Int) + 1 < (n : Int)) = false := decide_eq_false (by omega)
   have td2 : ¬ (k : Int) + 1 < (n : Int) := by omega
   have td3 : decide ((n : Int) ≤ (k : Int) + 1) = true := decide_eq_true (by omega)
   have td4 : (n : Int) ≤ (k : Int) + 1 := by omega
   generalize bs l = s at *
   go_wp2_with (first
    | refine wpList_store_row' rfl 26 (.tmp 2) (.tmp 35) rfl w.heap.size #[.int .i8 0, .int .i64 0, .int .i8 0, .int .i64 0] rfl rfl 26 #[.int .i8 0, .int .i64 0, .int .i8 0, .int .i64 0] HZ.1.z infoRn rfl (four_rn _ _ _ _) ?_)
   refine bodyPost_ret (results_cell_tmp (p := 2) (ty := 26) rfl _ _ w.heap.size 26 #[.int .i8 0, .int .i64 0, .int .i8 0, .int .i64 0] (0, 0) _ rfl (setRow_heap _ _ _ _ _ _ HZ.1.z) Tryz.underlying26 rfl infoRn) rfl ?_
   exact ⟨rfl, below_setRow HZ.1.below (Nat.le_refl _) _⟩
set_option maxHeartbeats 4000000 in
theorem refRPar_p5 {l : List UInt8} {j : Nat} {f d p g e q : Int} (hl : l.length ≤ 900) (hj : CutAt l j) (h1 : ParE (l.take j) f d p) (h2 : ParE (l.drop (j + 2)) g e q) (hp : p = 5) (w : World) :
 Calls Tryz.prog 35 #[.string (bs l)] w fun x w' => x = .returned (.tuple #[.agg #[.int .i8 0, .int .i64 0, .int .i8 0, .int .i64 0], .int .i64 5]) ∧ Below w.heap.size w w' := by
 have HZ := Kp.mk (zr_new w)
 have HB := Kp.mk (Bl.mk HZ.1.below)
 have HJ := Kp.mk hj.first
 obtain ⟨n, hn⟩ : ∃ n, l.length = n := ⟨_, rfl⟩
 have hjn := hj.lt
 have hj1 := hj.two.1
 have hj2 := hj.two.2
 have r1 := Kp.mk (fun w => refEPar_is (by rw [List.length_take]; omega) h1 w)
 have r2 := Kp.mk (fun w => refEPar_is (by rw [List.length_drop]; omega) h2 w)
 have t5 : (p == 5) = true := by rw [beq_iff_eq]; exact hp
 clear hp
 clear hj h1 h2
 go_enter Tryz.func35, Tryz.ntmps35
 go_upto_region 2 with fail
 generalize w.alloc (.cells #[.int .i8 0, .int .i64 0, .int .i8 0, .int .i64 0] 26) = w0 at *
 go_wp2_with fail
 go_loop [4] (fun a => ∃ k : Nat, k ≤ j ∧ a = .int .i64 k) (fun a => j - (intOf a).toNat)
 case atStart => exact ⟨0, by omega, rfl⟩
 case round =>
  obtain ⟨k, hk, rfl⟩ := hrel
  by_cases hlt : k < j
  ·have hk1 : k + 1 < l.length := by omega
   obtain ⟨c, hc⟩ : ∃ c, l[k]? = some c := ⟨_, List.getElem?_eq_getElem (by omega)⟩
   obtain ⟨c', hc'⟩ : ∃ c, l[k + 1]? = some c := ⟨_, List.getElem?_eq_getElem hk1⟩
   have i1 := idx_bs hc
   have i2 := idx_next hc'
   have w1 : IntKind.i64.wrap ((k : Int) + 1) = (k : Int) + 1 := IntWalk.i64_in _ (by omega)
   have hsz : (bs l).size = n := by rw [bs_size]; exact hn
   have td : decide ((k : Int) + 1 < (n : Int)) = true := decide_eq_true (by omega)
   have td2 : (k : Int) + 1 < (n : Int) := by omega
   by_cases x1 : c = 46
   ·subst x1
    have x2 : ¬ c' = 46 := fun e => HJ.1 k (by omega) ⟨hc, by rw [hc', e]⟩
    have t1 : (((46 : UInt8).toNat : Int) != 46) = false := by decide
    have t2 := ne46 x2
    generalize bs l = s at *
    generalize c'.toNat = m2 at *
    clear hj1 hj2 hjn hc hc' x2 hk1
    go_wp2_with fail
    go_round
    case rel => exact ⟨k + 1, by omega, by go_num⟩
    case measure => simp [intOf]; omega
   ·have t1 := ne46 x1
    generalize bs l = s at *
    generalize c.toNat = m1 at *
    clear hj1 hj2 hjn hc hc' x1 i2 hk1
    go_wp2_with fail
    go_round
    case rel => exact ⟨k + 1, by omega, by go_num⟩
    case measure => simp [intOf]; omega
  ·obtain rfl : k = j := by omega
   have i1 := idx_bs hj1
   have i2 := idx_next hj2
   have i3 := to_bs (l := l) (i := k) (by omega)
   have i4 := from_two (l := l) (i := k) (by omega)
   have w1 : IntKind.i64.wrap ((k : Int) + 1) = (k : Int) + 1 := IntWalk.i64_in _ (by omega)
   have w2 : IntKind.i64.wrap ((k : Int) + 2) = (k : Int) + 2 := IntWalk.i64_in _ (by omega)
   have hsz : (bs l).size = n := by rw [bs_size]; exact hn
   have td : decide ((k : Int) + 1 < (n : Int)) = true := decide_eq_true (by omega)
   have td2 : (k : Int) + 1 < (n : Int) := by omega
   have td3 : decide ((n : Int) ≤ (k : Int) + 1) = false := decide_eq_false (by omega)
   have td4 : ¬ (n : Int) ≤ (k : Int) + 1 := by omega
   have t1 : (((46 : UInt8).toNat : Int) != 46) = false := by decide
   generalize bs (l.take k) = s1 at *
   generalize bs (l.drop (k + 2)) = s2 at *
   generalize bs l = s at *
   clear hj1 hj2 hjn hn hk hlt hl
   go_wp2_with fail
   refine (r1.1 _).mono ?_
   rintro e u1 ⟨rfl, hbl⟩
   have HB := Kp.mk (HB.1.step hbl)
   have HZ := Kp.mk (HZ.1.step hbl)
   clear hbl
   go_upto_region 7 with fail
   have HX := Kp.mk (eb_new f d 24 HB.1.below)
   have hbl := (Below.refl u1.heap.size u1).alloc (Nat.le_refl _) (.cells #[.int .i8 f, .int .i64 d] 24)
   have HB := Kp.mk (HB.1.step hbl)
   have HZ := Kp.mk (HZ.1.step hbl)
   clear hbl
   generalize u1.alloc (.cells #[.int .i8 f, .int .i64 d] 24) = u2 at *
   generalize u1.heap.size = g1 at *
   have kHX0 := HX.1.c0
   have kHX1 := HX.1.c1
   go_wp2_with fail
   refine (r2.1 _).mono ?_
   rintro e u3 ⟨rfl, hbl⟩
   clear kHX0 kHX1
   have HB := Kp.mk (HB.1.step hbl)
   have HX := Kp.mk (HX.1.step hbl)
   have HZ := Kp.mk (HZ.1.step hbl)
   clear hbl
   have kHX0 := HX.1.c0
   have kHX1 := HX.1.c1
   go_upto_region 8 with fail
   clear kHX0 kHX1
   have HY := Kp.mk (eb_new g e 24 HB.1.below)
   have hbl := (Below.refl u3.heap.size u3).alloc (Nat.le_refl _) (.cells #[.int .i8 g, .int .i64 e] 24)
   have HB := Kp.mk (HB.1.step hbl)
   have HX := Kp.mk (HX.1.step hbl)
   have HZ := Kp.mk (HZ.1.step hbl)
   clear hbl
   generalize u3.alloc (.cells #[.int .i8 g, .int .i64 e] 24) = u4 at *
   generalize u3.heap.size = g2 at *
   have kHX0 := HX.1.c0
   have kHX1 := HX.1.c1
   have kHY0 := HY.1.c0
   have kHY1 := HY.1.c1
   go_wp2_with (first
    | refine wpList_store_row' rfl 26 (.tmp 2) (.tmp 57) rfl w.heap.size #[.int .i8 0, .int .i64 0, .int .i8 0, .int .i64 0] rfl rfl 26 #[.int .i8 0, .int .i64 0, .int .i8 0, .int .i64 0] HZ.1.z infoRn rfl (four_rn _ _ _ _) ?_)
   refine bodyPost_ret (results_cell_tmp (p := 2) (ty := 26) rfl _ _ w.heap.size 26 #[.int .i8 0, .int .i64 0, .int .i8 0, .int .i64 0] (0, 0) _ rfl (setRow_heap _ _ _ _ _ _ HZ.1.z) Tryz.underlying26 rfl infoRn) rfl ?_
   exact ⟨rfl, below_setRow HZ.1.below (Nat.le_refl _) _⟩
set_option maxHeartbeats 4000000 in
theorem refRPar_q5 {l : List UInt8} {j : Nat} {f d p g e q : Int} (hl : l.length ≤ 900) (hj : CutAt l j) (h1 : ParE (l.take j) f d p) (h2 : ParE (l.drop (j + 2)) g e q) (hp : ¬ p = 5) (hq : q = 5) (w : World) :
 Calls Tryz.prog 35 #[.string (bs l)] w fun x w' => x = .returned (.tuple #[.agg #[.int .i8 0, .int .i64 0, .int .i8 0, .int .i64 0], .int .i64 5]) ∧ Below w.heap.size w w' := by
 have HZ := Kp.mk (zr_new w)
 have HB := Kp.mk (Bl.mk HZ.1.below)
 have HJ := Kp.mk hj.first
 obtain ⟨n, hn⟩ : ∃ n, l.length = n := ⟨_, rfl⟩
 have hjn := hj.lt
 have hj1 := hj.two.1
 have hj2 := hj.two.2
 have r1 := Kp.mk (fun w => refEPar_is (by rw [List.length_take]; omega) h1 w)
 have r2 := Kp.mk (fun w => refEPar_is (by rw [List.length_drop]; omega) h2 w)
 have t5 : (p == 5) = false := by rw [beq_eq_false_iff_ne]; exact hp
 have t6 : (q == 5) = true := by rw [beq_iff_eq]; exact hq
 clear hp hq
 clear hj h1 h2
 go_enter Tryz.func35, Tryz.ntmps35
 go_upto_region 2 with fail
 generalize w.alloc (.cells #[.int .i8 0, .int .i64 0, .int .i8 0, .int .i64 0] 26) = w0 at *
 go_wp2_with fail
 go_loop [4] (fun a => ∃ k : Nat, k ≤ j ∧ a = .int .i64 k) (fun a => j - (intOf a).toNat)
 case atStart => exact ⟨0, by omega, rfl⟩
 case round =>
  obtain ⟨k, hk, rfl⟩ := hrel
  by_cases hlt : k < j
  ·have hk1 : k + 1 < l.length := by omega
   obtain ⟨c, hc⟩ : ∃ c, l[k]? = some c := ⟨_, List.getElem?_eq_getElem (by omega)⟩
   obtain ⟨c', hc'⟩ : ∃ c, l[k + 1]? = some c := ⟨_, List.getElem?_eq_getElem hk1⟩
   have i1 := idx_bs hc
   have i2 := idx_next hc'
   have w1 : IntKind.i64.wrap ((k : Int) + 1) = (k : Int) + 1 := IntWalk.i64_in _ (by omega)
   have hsz : (bs l).size = n := by rw [bs_size]; exact hn
   have td : decide ((k : Int) + 1 < (n : Int)) = true := decide_eq_true (by omega)
   have td2 : (k : Int) + 1 < (n : Int) := by omega
   by_cases x1 : c = 46
   ·subst x1
    have x2 : ¬ c' = 46 := fun e => HJ.1 k (by omega) ⟨hc, by rw [hc', e]⟩
    have t1 : (((46 : UInt8).toNat : Int) != 46) = false := by decide
    have t2 := ne46 x2
    generalize bs l = s at *
    generalize c'.toNat = m2 at *
    clear hj1 hj2 hjn hc hc' x2 hk1
    go_wp2_with fail
    go_round
    case rel => exact ⟨k + 1, by omega, by go_num⟩
    case measure => simp [intOf]; omega
   ·have t1 := ne46 x1
    generalize bs l = s at *
    generalize c.toNat = m1 at *
    clear hj1 hj2 hjn hc hc' x1 i2 hk1
    go_wp2_with fail
    go_round
    case rel => exact ⟨k + 1, by omega, by go_num⟩
    case measure => simp [intOf]; omega
  ·obtain rfl : k = j := by omega
   have i1 := idx_bs hj1
   have i2 := idx_next hj2
   have i3 := to_bs (l := l) (i := k) (by omega)
   have i4 := from_two (l := l) (i := k) (by omega)
   have w1 : IntKind.i64.wrap ((k : Int) + 1) = (k : Int) + 1 := IntWalk.i64_in _ (by omega)
   have w2 : IntKind.i64.wrap ((k : Int) + 2) = (k : Int) + 2 := IntWalk.i64_in _ (by omega)
   have hsz : (bs l).size = n := by rw [bs_size]; exact hn
   have td : decide ((k : Int) + 1 < (n : Int)) = true := decide_eq_true (by omega)
   have td2 : (k : Int) + 1 < (n : Int) := by omega
   have td3 : decide ((n : Int) ≤ (k : Int) + 1) = false := decide_eq_false (by omega)
   have td4 : ¬ (n : Int) ≤ (k : Int) + 1 := by omega
   have t1 : (((46 : UInt8).toNat : Int) != 46) = false := by decide
   generalize bs (l.take k) = s1 at *
   generalize bs (l.drop (k + 2)) = s2 at *
   generalize bs l = s at *
   clear hj1 hj2 hjn hn hk hlt hl
   go_wp2_with fail
   refine (r1.1 _).mono ?_
   rintro e u1 ⟨rfl, hbl⟩
   have HB := Kp.mk (HB.1.step hbl)
   have HZ := Kp.mk (HZ.1.step hbl)
   clear hbl
   go_upto_region 7 with fail
   have HX := Kp.mk (eb_new f d 24 HB.1.below)
   have hbl := (Below.refl u1.heap.size u1).alloc (Nat.le_refl _) (.cells #[.int .i8 f, .int .i64 d] 24)
   have HB := Kp.mk (HB.1.step hbl)
   have HZ := Kp.mk (HZ.1.step hbl)
   clear hbl
   generalize u1.alloc (.cells #[.int .i8 f, .int .i64 d] 24) = u2 at *
   generalize u1.heap.size = g1 at *
   have kHX0 := HX.1.c0
   have kHX1 := HX.1.c1
   go_wp2_with fail
   refine (r2.1 _).mono ?_
   rintro e u3 ⟨rfl, hbl⟩
   clear kHX0 kHX1
   have HB := Kp.mk (HB.1.step hbl)
   have HX := Kp.mk (HX.1.step hbl)
   have HZ := Kp.mk (HZ.1.step hbl)
   clear hbl
   have kHX0 := HX.1.c0
   have kHX1 := HX.1.c1
   go_upto_region 8 with fail
   clear kHX0 kHX1
   have HY := Kp.mk (eb_new g e 24 HB.1.below)
   have hbl := (Below.refl u3.heap.size u3).alloc (Nat.le_refl _) (.cells #[.int .i8 g, .int .i64 e] 24)
   have HB := Kp.mk (HB.1.step hbl)
   have HX := Kp.mk (HX.1.step hbl)
   have HZ := Kp.mk (HZ.1.step hbl)
   clear hbl
   generalize u3.alloc (.cells #[.int .i8 g, .int .i64 e] 24) = u4 at *
   generalize u3.heap.size = g2 at *
   have kHX0 := HX.1.c0
   have kHX1 := HX.1.c1
   have kHY0 := HY.1.c0
   have kHY1 := HY.1.c1
   go_wp2_with (first
    | refine wpList_store_row' rfl 26 (.tmp 2) (.tmp 57) rfl w.heap.size #[.int .i8 0, .int .i64 0, .int .i8 0, .int .i64 0] rfl rfl 26 #[.int .i8 0, .int .i64 0, .int .i8 0, .int .i64 0] HZ.1.z infoRn rfl (four_rn _ _ _ _) ?_)
   refine bodyPost_ret (results_cell_tmp (p := 2) (ty := 26) rfl _ _ w.heap.size 26 #[.int .i8 0, .int .i64 0, .int .i8 0, .int .i64 0] (0, 0) _ rfl (setRow_heap _ _ _ _ _ _ HZ.1.z) Tryz.underlying26 rfl infoRn) rfl ?_
   exact ⟨rfl, below_setRow HZ.1.below (Nat.le_refl _) _⟩
set_option maxHeartbeats 4000000 in
theorem refRPar_p0 {l : List UInt8} {j : Nat} {f d p g e q : Int} (hl : l.length ≤ 900) (hj : CutAt l j) (h1 : ParE (l.take j) f d p) (h2 : ParE (l.drop (j + 2)) g e q) (hp : ¬ p = 5) (hq : ¬ q = 5) (h0 : ¬ p = 0) (w : World) :
 Calls Tryz.prog 35 #[.string (bs l)] w fun x w' => x = .returned (.tuple #[.agg #[.int .i8 0, .int .i64 0, .int .i8 0, .int .i64 0], .int .i64 15]) ∧ Below w.heap.size w w' := by
 have HZ := Kp.mk (zr_new w)
 have HB := Kp.mk (Bl.mk HZ.1.below)
 have HJ := Kp.mk hj.first
 obtain ⟨n, hn⟩ : ∃ n, l.length = n := ⟨_, rfl⟩
 have hjn := hj.lt
 have hj1 := hj.two.1
 have hj2 := hj.two.2
 have r1 := Kp.mk (fun w => refEPar_is (by rw [List.length_take]; omega) h1 w)
 have r2 := Kp.mk (fun w => refEPar_is (by rw [List.length_drop]; omega) h2 w)
 have t5 : (p == 5) = false := by rw [beq_eq_false_iff_ne]; exact hp
 have t6 : (q == 5) = false := by rw [beq_eq_false_iff_ne]; exact hq
 have t7 : (p != 0) = true := by rw [bne_iff_ne]; exact h0
 clear hp hq h0
 clear hj h1 h2
 go_enter Tryz.func35, Tryz.ntmps35
 go_upto_region 2 with fail
 generalize w.alloc (.cells #[.int .i8 0, .int .i64 0, .int .i8 0, .int .i64 0] 26) = w0 at *
 go_wp2_with fail
 go_loop [4] (fun a => ∃ k : Nat, k ≤ j ∧ a = .int .i64 k) (fun a => j - (intOf a).toNat)
 case atStart => exact ⟨0, by omega, rfl⟩
 case round =>
  obtain ⟨k, hk, rfl⟩ := hrel
  by_cases hlt : k < j
  ·have hk1 : k + 1 < l.length := by omega
   obtain ⟨c, hc⟩ : ∃ c, l[k]? = some c := ⟨_, List.getElem?_eq_getElem (by omega)⟩
   obtain ⟨c', hc'⟩ : ∃ c, l[k + 1]? = some c := ⟨_, List.getElem?_eq_getElem hk1⟩
   have i1 := idx_bs hc
   have i2 := idx_next hc'
   have w1 : IntKind.i64.wrap ((k : Int) + 1) = (k : Int) + 1 := IntWalk.i64_in _ (by omega)
   have hsz : (bs l).size = n := by rw [bs_size]; exact hn
   have td : decide ((k : Int) + 1 < (n : Int)) = true := decide_eq_true (by omega)
   have td2 : (k : Int) + 1 < (n : Int) := by omega
   by_cases x1 : c = 46
   ·subst x1
    have x2 : ¬ c' = 46 := fun e => HJ.1 k (by omega) ⟨hc, by rw [hc', e]⟩
    have t1 : (((46 : UInt8).toNat : Int) != 46) = false := by decide
    have t2 := ne46 x2
    generalize bs l = s at *
    generalize c'.toNat = m2 at *
    clear hj1 hj2 hjn hc hc' x2 hk1
    go_wp2_with fail
    go_round
    case rel => exact ⟨k + 1, by omega, by go_num⟩
    case measure => simp [intOf]; omega
   ·have t1 := ne46 x1
    generalize bs l = s at *
    generalize c.toNat = m1 at *
    clear hj1 hj2 hjn hc hc' x1 i2 hk1
    go_wp2_with fail
    go_round
    case rel => exact ⟨k + 1, by omega, by go_num⟩
    case measure => simp [intOf]; omega
  ·obtain rfl : k = j := by omega
   have i1 := idx_bs hj1
   have i2 := idx_next hj2
   have i3 := to_bs (l := l) (i := k) (by omega)
   have i4 := from_two (l := l) (i := k) (by omega)
   have w1 : IntKind.i64.wrap ((k : Int) + 1) = (k : Int) + 1 := IntWalk.i64_in _ (by omega)
   have w2 : IntKind.i64.wrap ((k : Int) + 2) = (k : Int) + 2 := IntWalk.i64_in _ (by omega)
   have hsz : (bs l).size = n := by rw [bs_size]; exact hn
   have td : decide ((k : Int) + 1 < (n : Int)) = true := decide_eq_true (by omega)
   have td2 : (k : Int) + 1 < (n : Int) := by omega
   have td3 : decide ((n : Int) ≤ (k : Int) + 1) = false := decide_eq_false (by omega)
   have td4 : ¬ (n : Int) ≤ (k : Int) + 1 := by omega
   have t1 : (((46 : UInt8).toNat : Int) != 46) = false := by decide
   generalize bs (l.take k) = s1 at *
   generalize bs (l.drop (k + 2)) = s2 at *
   generalize bs l = s at *
   clear hj1 hj2 hjn hn hk hlt hl
   go_wp2_with fail
   refine (r1.1 _).mono ?_
   rintro e u1 ⟨rfl, hbl⟩
   have HB := Kp.mk (HB.1.step hbl)
   have HZ := Kp.mk (HZ.1.step hbl)
   clear hbl
   go_upto_region 7 with fail
   have HX := Kp.mk (eb_new f d 24 HB.1.below)
   have hbl := (Below.refl u1.heap.size u1).alloc (Nat.le_refl _) (.cells #[.int .i8 f, .int .i64 d] 24)
   have HB := Kp.mk (HB.1.step hbl)
   have HZ := Kp.mk (HZ.1.step hbl)
   clear hbl
   generalize u1.alloc (.cells #[.int .i8 f, .int .i64 d] 24) = u2 at *
   generalize u1.heap.size = g1 at *
   have kHX0 := HX.1.c0
   have kHX1 := HX.1.c1
   go_wp2_with fail
   refine (r2.1 _).mono ?_
   rintro e u3 ⟨rfl, hbl⟩
   clear kHX0 kHX1
   have HB := Kp.mk (HB.1.step hbl)
   have HX := Kp.mk (HX.1.step hbl)
   have HZ := Kp.mk (HZ.1.step hbl)
   clear hbl
   have kHX0 := HX.1.c0
   have kHX1 := HX.1.c1
   go_upto_region 8 with fail
   clear kHX0 kHX1
   have HY := Kp.mk (eb_new g e 24 HB.1.below)
   have hbl := (Below.refl u3.heap.size u3).alloc (Nat.le_refl _) (.cells #[.int .i8 g, .int .i64 e] 24)
   have HB := Kp.mk (HB.1.step hbl)
   have HX := Kp.mk (HX.1.step hbl)
   have HZ := Kp.mk (HZ.1.step hbl)
   clear hbl
   generalize u3.alloc (.cells #[.int .i8 g, .int .i64 e] 24) = u4 at *
   generalize u3.heap.size = g2 at *
   have kHX0 := HX.1.c0
   have kHX1 := HX.1.c1
   have kHY0 := HY.1.c0
   have kHY1 := HY.1.c1
   go_wp2_with (first
    | refine wpList_store_row' rfl 26 (.tmp 2) (.tmp 64) rfl w.heap.size #[.int .i8 0, .int .i64 0, .int .i8 0, .int .i64 0] rfl rfl 26 #[.int .i8 0, .int .i64 0, .int .i8 0, .int .i64 0] HZ.1.z infoRn rfl (four_rn _ _ _ _) ?_)
   refine bodyPost_ret (results_cell_tmp (p := 2) (ty := 26) rfl _ _ w.heap.size 26 #[.int .i8 0, .int .i64 0, .int .i8 0, .int .i64 0] (0, 0) _ rfl (setRow_heap _ _ _ _ _ _ HZ.1.z) Tryz.underlying26 rfl infoRn) rfl ?_
   exact ⟨rfl, below_setRow HZ.1.below (Nat.le_refl _) _⟩
set_option maxHeartbeats 4000000 in
theorem refRPar_q0 {l : List UInt8} {j : Nat} {f d p g e q : Int} (hl : l.length ≤ 900) (hj : CutAt l j) (h1 : ParE (l.take j) f d p) (h2 : ParE (l.drop (j + 2)) g e q) (hp : ¬ p = 5) (hq : ¬ q = 5) (h0 : p = 0) (h9 : ¬ q = 0) (w : World) :
 Calls Tryz.prog 35 #[.string (bs l)] w fun x w' => x = .returned (.tuple #[.agg #[.int .i8 0, .int .i64 0, .int .i8 0, .int .i64 0], .int .i64 15]) ∧ Below w.heap.size w w' := by
 have HZ := Kp.mk (zr_new w)
 have HB := Kp.mk (Bl.mk HZ.1.below)
 have HJ := Kp.mk hj.first
 obtain ⟨n, hn⟩ : ∃ n, l.length = n := ⟨_, rfl⟩
 have hjn := hj.lt
 have hj1 := hj.two.1
 have hj2 := hj.two.2
 have r1 := Kp.mk (fun w => refEPar_is (by rw [List.length_take]; omega) h1 w)
 have r2 := Kp.mk (fun w => refEPar_is (by rw [List.length_drop]; omega) h2 w)
 have t5 : (p == 5) = false := by rw [beq_eq_false_iff_ne]; exact hp
 have t6 : (q == 5) = false := by rw [beq_eq_false_iff_ne]; exact hq
 have t7 : (p != 0) = false := by rw [bne_eq_false_iff_eq]; exact h0
 have t8 : (q != 0) = true := by rw [bne_iff_ne]; exact h9
 clear hp hq h0 h9
 clear hj h1 h2
 go_enter Tryz.func35, Tryz.ntmps35
 go_upto_region 2 with fail
 generalize w.alloc (.cells #[.int .i8 0, .int .i64 0, .int .i8 0, .int .i64 0] 26) = w0 at *
 go_wp2_with fail
 go_loop [4] (fun a => ∃ k : Nat, k ≤ j ∧ a = .int .i64 k) (fun a => j - (intOf a).toNat)
 case atStart => exact ⟨0, by omega, rfl⟩
 case round =>
  obtain ⟨k, hk, rfl⟩ := hrel
  by_cases hlt : k < j
  ·have hk1 : k + 1 < l.length := by omega
   obtain ⟨c, hc⟩ : ∃ c, l[k]? = some c := ⟨_, List.getElem?_eq_getElem (by omega)⟩
   obtain ⟨c', hc'⟩ : ∃ c, l[k + 1]? = some c := ⟨_, List.getElem?_eq_getElem hk1⟩
   have i1 := idx_bs hc
   have i2 := idx_next hc'
   have w1 : IntKind.i64.wrap ((k : Int) + 1) = (k : Int) + 1 := IntWalk.i64_in _ (by omega)
   have hsz : (bs l).size = n := by rw [bs_size]; exact hn
   have td : decide ((k : Int) + 1 < (n : Int)) = true := decide_eq_true (by omega)
   have td2 : (k : Int) + 1 < (n : Int) := by omega
   by_cases x1 : c = 46
   ·subst x1
    have x2 : ¬ c' = 46 := fun e => HJ.1 k (by omega) ⟨hc, by rw [hc', e]⟩
    have t1 : (((46 : UInt8).toNat : Int) != 46) = false := by decide
    have t2 := ne46 x2
    generalize bs l = s at *
    generalize c'.toNat = m2 at *
    clear hj1 hj2 hjn hc hc' x2 hk1
    go_wp2_with fail
    go_round
    case rel => exact ⟨k + 1, by omega, by go_num⟩
    case measure => simp [intOf]; omega
   ·have t1 := ne46 x1
    generalize bs l = s at *
    generalize c.toNat = m1 at *
    clear hj1 hj2 hjn hc hc' x1 i2 hk1
    go_wp2_with fail
    go_round
    case rel => exact ⟨k + 1, by omega, by go_num⟩
    case measure => simp [intOf]; omega
  ·obtain rfl : k = j := by omega
   have i1 := idx_bs hj1
   have i2 := idx_next hj2
   have i3 := to_bs (l := l) (i := k) (by omega)
   have i4 := from_two (l := l) (i := k) (by omega)
   have w1 : IntKind.i64.wrap ((k : Int) + 1) = (k : Int) + 1 := IntWalk.i64_in _ (by omega)
   have w2 : IntKind.i64.wrap ((k : Int) + 2) = (k : Int) + 2 := IntWalk.i64_in _ (by omega)
   have hsz : (bs l).size = n := by rw [bs_size]; exact hn
   have td : decide ((k : Int) + 1 < (n : Int)) = true := decide_eq_true (by omega)
   have td2 : (k : Int) + 1 < (n : Int) := by omega
   have td3 : decide ((n : Int) ≤ (k : Int) + 1) = false := decide_eq_false (by omega)
   have td4 : ¬ (n : Int) ≤ (k : Int) + 1 := by omega
   have t1 : (((46 : UInt8).toNat : Int) != 46) = false := by decide
   generalize bs (l.take k) = s1 at *
   generalize bs (l.drop (k + 2)) = s2 at *
   generalize bs l = s at *
   clear hj1 hj2 hjn hn hk hlt hl
   go_wp2_with fail
   refine (r1.1 _).mono ?_
   rintro e u1 ⟨rfl, hbl⟩
   have HB := Kp.mk (HB.1.step hbl)
   have HZ := Kp.mk (HZ.1.step hbl)
   clear hbl
   go_upto_region 7 with fail
   have HX := Kp.mk (eb_new f d 24 HB.1.below)
   have hbl := (Below.refl u1.heap.size u1).alloc (Nat.le_refl _) (.cells #[.int .i8 f, .int .i64 d] 24)
   have HB := Kp.mk (HB.1.step hbl)
   have HZ := Kp.mk (HZ.1.step hbl)
   clear hbl
   generalize u1.alloc (.cells #[.int .i8 f, .int .i64 d] 24) = u2 at *
   generalize u1.heap.size = g1 at *
   have kHX0 := HX.1.c0
   have kHX1 := HX.1.c1
   go_wp2_with fail
   refine (r2.1 _).mono ?_
   rintro e u3 ⟨rfl, hbl⟩
   clear kHX0 kHX1
   have HB := Kp.mk (HB.1.step hbl)
   have HX := Kp.mk (HX.1.step hbl)
   have HZ := Kp.mk (HZ.1.step hbl)
   clear hbl
   have kHX0 := HX.1.c0
   have kHX1 := HX.1.c1
   go_upto_region 8 with fail
   clear kHX0 kHX1
   have HY := Kp.mk (eb_new g e 24 HB.1.below)
   have hbl := (Below.refl u3.heap.size u3).alloc (Nat.le_refl _) (.cells #[.int .i8 g, .int .i64 e] 24)
   have HB := Kp.mk (HB.1.step hbl)
   have HX := Kp.mk (HX.1.step hbl)
   have HZ := Kp.mk (HZ.1.step hbl)
   clear hbl
   generalize u3.alloc (.cells #[.int .i8 g, .int .i64 e] 24) = u4 at *
   generalize u3.heap.size = g2 at *
   have kHX0 := HX.1.c0
   have kHX1 := HX.1.c1
   have kHY0 := HY.1.c0
   have kHY1 := HY.1.c1
   go_wp2_with (first
    | refine wpList_store_row' rfl 26 (.tmp 2) (.tmp 64) rfl w.heap.size #[.int .i8 0, .int .i64 0, .int .i8 0, .int .i64 0] rfl rfl 26 #[.int .i8 0, .int .i64 0, .int .i8 0, .int .i64 0] HZ.1.z infoRn rfl (four_rn _ _ _ _) ?_)
   refine bodyPost_ret (results_cell_tmp (p := 2) (ty := 26) rfl _ _ w.heap.size 26 #[.int .i8 0, .int .i64 0, .int .i8 0, .int .i64 0] (0, 0) _ rfl (setRow_heap _ _ _ _ _ _ HZ.1.z) Tryz.underlying26 rfl infoRn) rfl ?_
   exact ⟨rfl, below_setRow HZ.1.below (Nat.le_refl _) _⟩
set_option maxHeartbeats 4000000 in
theorem refRPar_bad {l : List UInt8} {j : Nat} {f d p g e q : Int} (hl : l.length ≤ 900) (hj : CutAt l j) (h1 : ParE (l.take j) f d p) (h2 : ParE (l.drop (j + 2)) g e q) {c : Int} (hp : p = 0) (hq : q = 0) (hc : chkR ⟨f, d, g, e⟩ = c) (h0 : ¬ c = 0) (w : World) :
 Calls Tryz.prog 35 #[.string (bs l)] w fun x w' => x = .returned (.tuple #[.agg #[.int .i8 0, .int .i64 0, .int .i8 0, .int .i64 0], .int .i64 c]) ∧ Below w.heap.size w w' := by
 have HZ := Kp.mk (zr_new w)
 have HB := Kp.mk (Bl.mk HZ.1.below)
 have HJ := Kp.mk hj.first
 obtain ⟨n, hn⟩ : ∃ n, l.length = n := ⟨_, rfl⟩
 have hjn := hj.lt
 have hj1 := hj.two.1
 have hj2 := hj.two.2
 have r1 := Kp.mk (fun w => refEPar_is (by rw [List.length_take]; omega) h1 w)
 have r2 := Kp.mk (fun w => refEPar_is (by rw [List.length_drop]; omega) h2 w)
 have r3 : Kp (∀ w, Calls Tryz.prog 8 #[.agg #[.int .i8 f, .int .i64 d, .int .i8 g, .int .i64 e]] w fun x w' => x = .returned (.int .i64 c) ∧ Below w.heap.size w w') := Kp.mk (fun w => refRChk_is (r := ⟨f, d, g, e⟩) hc w)
 have t5 : (p == 5) = false := by rw [beq_eq_false_iff_ne]; omega
 have t6 : (q == 5) = false := by rw [beq_eq_false_iff_ne]; omega
 have t7 : (p != 0) = false := by rw [bne_eq_false_iff_eq]; exact hp
 have t8 : (q != 0) = false := by rw [bne_eq_false_iff_eq]; exact hq
 have t9 : (c != 0) = true := by rw [bne_iff_ne]; exact h0
 clear hp hq hc h0
 clear hj h1 h2
 go_enter Tryz.func35, Tryz.ntmps35
 go_upto_region 2 with fail
 generalize w.alloc (.cells #[.int .i8 0, .int .i64 0, .int .i8 0, .int .i64 0] 26) = w0 at *
 go_wp2_with fail
 go_loop [4] (fun a => ∃ k : Nat, k ≤ j ∧ a = .int .i64 k) (fun a => j - (intOf a).toNat)
 case atStart => exact ⟨0, by omega, rfl⟩
 case round =>
  obtain ⟨k, hk, rfl⟩ := hrel
  by_cases hlt : k < j
  ·have hk1 : k + 1 < l.length := by omega
   obtain ⟨c, hc⟩ : ∃ c, l[k]? = some c := ⟨_, List.getElem?_eq_getElem (by omega)⟩
   obtain ⟨c', hc'⟩ : ∃ c, l[k + 1]? = some c := ⟨_, List.getElem?_eq_getElem hk1⟩
   have i1 := idx_bs hc
   have i2 := idx_next hc'
   have w1 : IntKind.i64.wrap ((k : Int) + 1) = (k : Int) + 1 := IntWalk.i64_in _ (by omega)
   have hsz : (bs l).size = n := by rw [bs_size]; exact hn
   have td : decide ((k : Int) + 1 < (n : Int)) = true := decide_eq_true (by omega)
   have td2 : (k : Int) + 1 < (n : Int) := by omega
   by_cases x1 : c = 46
   ·subst x1
    have x2 : ¬ c' = 46 := fun e => HJ.1 k (by omega) ⟨hc, by rw [hc', e]⟩
    have t1 : (((46 : UInt8).toNat : Int) != 46) = false := by decide
    have t2 := ne46 x2
    generalize bs l = s at *
    generalize c'.toNat = m2 at *
    clear hj1 hj2 hjn hc hc' x2 hk1
    go_wp2_with fail
    go_round
    case rel => exact ⟨k + 1, by omega, by go_num⟩
    case measure => simp [intOf]; omega
   ·have t1 := ne46 x1
    generalize bs l = s at *
    generalize c.toNat = m1 at *
    clear hj1 hj2 hjn hc hc' x1 i2 hk1
    go_wp2_with fail
    go_round
    case rel => exact ⟨k + 1, by omega, by go_num⟩
    case measure => simp [intOf]; omega
  ·obtain rfl : k = j := by omega
   have i1 := idx_bs hj1
   have i2 := idx_next hj2
   have i3 := to_bs (l := l) (i := k) (by omega)
   have i4 := from_two (l := l) (i := k) (by omega)
   have w1 : IntKind.i64.wrap ((k : Int) + 1) = (k : Int) + 1 := IntWalk.i64_in _ (by omega)
   have w2 : IntKind.i64.wrap ((k : Int) + 2) = (k : Int) + 2 := IntWalk.i64_in _ (by omega)
   have hsz : (bs l).size = n := by rw [bs_size]; exact hn
   have td : decide ((k : Int) + 1 < (n : Int)) = true := decide_eq_true (by omega)
   have td2 : (k : Int) + 1 < (n : Int) := by omega
   have td3 : decide ((n : Int) ≤ (k : Int) + 1) = false := decide_eq_false (by omega)
   have td4 : ¬ (n : Int) ≤ (k : Int) + 1 := by omega
   have t1 : (((46 : UInt8).toNat : Int) != 46) = false := by decide
   generalize bs (l.take k) = s1 at *
   generalize bs (l.drop (k + 2)) = s2 at *
   generalize bs l = s at *
   clear hj1 hj2 hjn hn hk hlt hl
   go_wp2_with fail
   refine (r1.1 _).mono ?_
   rintro e u1 ⟨rfl, hbl⟩
   have HB := Kp.mk (HB.1.step hbl)
   have HZ := Kp.mk (HZ.1.step hbl)
   clear hbl
   go_upto_region 7 with fail
   have HX := Kp.mk (eb_new f d 24 HB.1.below)
   have hbl := (Below.refl u1.heap.size u1).alloc (Nat.le_refl _) (.cells #[.int .i8 f, .int .i64 d] 24)
   have HB := Kp.mk (HB.1.step hbl)
   have HZ := Kp.mk (HZ.1.step hbl)
   clear hbl
   generalize u1.alloc (.cells #[.int .i8 f, .int .i64 d] 24) = u2 at *
   generalize u1.heap.size = g1 at *
   have kHX0 := HX.1.c0
   have kHX1 := HX.1.c1
   go_wp2_with fail
   refine (r2.1 _).mono ?_
   rintro e u3 ⟨rfl, hbl⟩
   clear kHX0 kHX1
   have HB := Kp.mk (HB.1.step hbl)
   have HX := Kp.mk (HX.1.step hbl)
   have HZ := Kp.mk (HZ.1.step hbl)
   clear hbl
   have kHX0 := HX.1.c0
   have kHX1 := HX.1.c1
   go_upto_region 8 with fail
   clear kHX0 kHX1
   have HY := Kp.mk (eb_new g e 24 HB.1.below)
   have hbl := (Below.refl u3.heap.size u3).alloc (Nat.le_refl _) (.cells #[.int .i8 g, .int .i64 e] 24)
   have HB := Kp.mk (HB.1.step hbl)
   have HX := Kp.mk (HX.1.step hbl)
   have HZ := Kp.mk (HZ.1.step hbl)
   clear hbl
   generalize u3.alloc (.cells #[.int .i8 g, .int .i64 e] 24) = u4 at *
   generalize u3.heap.size = g2 at *
   have kHX0 := HX.1.c0
   have kHX1 := HX.1.c1
   have kHY0 := HY.1.c0
   have kHY1 := HY.1.c1
   go_upto_region 13 with fail
   clear kHX0 kHX1 kHY0 kHY1
   have HQ := Kp.mk (rg_new ⟨f, d, g, e⟩ 26 HB.1.below)
   have hbl := (Below.refl u4.heap.size u4).alloc (Nat.le_refl _) (.cells #[.int .i8 f, .int .i64 d, .int .i8 g, .int .i64 e] 26)
   clear HX HY
   have HB := Kp.mk (HB.1.step hbl)
   have HZ := Kp.mk (HZ.1.step hbl)
   clear hbl
   have q0 : (u4.alloc (.cells #[.int .i8 f, .int .i64 d, .int .i8 g, .int .i64 e] 26)).cell? ⟨u4.heap.size, 0, none⟩ = some (.int .i8 f) := HQ.1.c0
   have q1 : (u4.alloc (.cells #[.int .i8 f, .int .i64 d, .int .i8 g, .int .i64 e] 26)).cell? ⟨u4.heap.size, 1, none⟩ = some (.int .i64 d) := HQ.1.c1
   have q2 : (u4.alloc (.cells #[.int .i8 f, .int .i64 d, .int .i8 g, .int .i64 e] 26)).cell? ⟨u4.heap.size, 2, none⟩ = some (.int .i8 g) := HQ.1.c2
   have q3 : (u4.alloc (.cells #[.int .i8 f, .int .i64 d, .int .i8 g, .int .i64 e] 26)).cell? ⟨u4.heap.size, 3, none⟩ = some (.int .i64 e) := HQ.1.c3
   generalize u4.alloc (.cells #[.int .i8 f, .int .i64 d, .int .i8 g, .int .i64 e] 26) = u5 at *
   generalize u4.heap.size = g3 at *
   go_wp2_with fail
   refine (r3.1 _).mono ?_
   rintro e' u6 ⟨rfl, hbl⟩
   clear q0 q1 q2 q3
   have HZ := Kp.mk (HZ.1.step hbl)
   have HQ := Kp.mk (HQ.1.step hbl)
   clear hbl
   have q0 : u6.cell? ⟨g3, 0, none⟩ = some (.int .i8 f) := HQ.1.c0
   have q1 : u6.cell? ⟨g3, 1, none⟩ = some (.int .i64 d) := HQ.1.c1
   have q2 : u6.cell? ⟨g3, 2, none⟩ = some (.int .i8 g) := HQ.1.c2
   have q3 : u6.cell? ⟨g3, 3, none⟩ = some (.int .i64 e) := HQ.1.c3
   go_wp2_with fail
   refine (r3.1 _).mono ?_
   rintro e' u7 ⟨rfl, hbl⟩
   clear q0 q1 q2 q3
   have HZ := Kp.mk (HZ.1.step hbl)
   have HQ := Kp.mk (HQ.1.step hbl)
   clear hbl
   have q0 : u7.cell? ⟨g3, 0, none⟩ = some (.int .i8 f) := HQ.1.c0
   have q1 : u7.cell? ⟨g3, 1, none⟩ = some (.int .i64 d) := HQ.1.c1
   have q2 : u7.cell? ⟨g3, 2, none⟩ = some (.int .i8 g) := HQ.1.c2
   have q3 : u7.cell? ⟨g3, 3, none⟩ = some (.int .i64 e) := HQ.1.c3
   go_wp2_with (first
    | refine wpList_store_row' rfl 26 (.tmp 2) (.tmp 71) rfl w.heap.size #[.int .i8 0, .int .i64 0, .int .i8 0, .int .i64 0] rfl rfl 26 #[.int .i8 0, .int .i64 0, .int .i8 0, .int .i64 0] HZ.1.z infoRn rfl (four_rn _ _ _ _) ?_)
   refine bodyPost_ret (results_cell_tmp (p := 2) (ty := 26) rfl _ _ w.heap.size 26 #[.int .i8 0, .int .i64 0, .int .i8 0, .int .i64 0] (0, 0) _ rfl (setRow_heap _ _ _ _ _ _ HZ.1.z) Tryz.underlying26 rfl infoRn) rfl ?_
   exact ⟨rfl, below_setRow HZ.1.below (Nat.le_refl _) _⟩
set_option maxHeartbeats 4000000 in
theorem refRPar_good {l : List UInt8} {j : Nat} {f d p g e q : Int} (hl : l.length ≤ 900) (hj : CutAt l j) (h1 : ParE (l.take j) f d p) (h2 : ParE (l.drop (j + 2)) g e q) (hp : p = 0) (hq : q = 0) (hc : chkR ⟨f, d, g, e⟩ = 0) (w : World) :
 Calls Tryz.prog 35 #[.string (bs l)] w fun x w' => x = .returned (.tuple #[.agg #[.int .i8 f, .int .i64 d, .int .i8 g, .int .i64 e], .int .i64 0]) ∧ Below w.heap.size w w' := by
 have HZ := Kp.mk (zr_new w)
 have HB := Kp.mk (Bl.mk HZ.1.below)
 have HJ := Kp.mk hj.first
 obtain ⟨n, hn⟩ : ∃ n, l.length = n := ⟨_, rfl⟩
 have hjn := hj.lt
 have hj1 := hj.two.1
 have hj2 := hj.two.2
 have r1 := Kp.mk (fun w => refEPar_is (by rw [List.length_take]; omega) h1 w)
 have r2 := Kp.mk (fun w => refEPar_is (by rw [List.length_drop]; omega) h2 w)
 have r3 : Kp (∀ w, Calls Tryz.prog 8 #[.agg #[.int .i8 f, .int .i64 d, .int .i8 g, .int .i64 e]] w fun x w' => x = .returned (.int .i64 0) ∧ Below w.heap.size w w') := Kp.mk (fun w => refRChk_is (r := ⟨f, d, g, e⟩) hc w)
 have t5 : (p == 5) = false := by rw [beq_eq_false_iff_ne]; omega
 have t6 : (q == 5) = false := by rw [beq_eq_false_iff_ne]; omega
 have t7 : (p != 0) = false := by rw [bne_eq_false_iff_eq]; exact hp
 have t8 : (q != 0) = false := by rw [bne_eq_false_iff_eq]; exact hq
 clear hp hq hc
 clear hj h1 h2
 go_enter Tryz.func35, Tryz.ntmps35
 go_upto_region 2 with fail
 generalize w.alloc (.cells #[.int .i8 0, .int .i64 0, .int .i8 0, .int .i64 0] 26) = w0 at *
 go_wp2_with fail
 go_loop [4] (fun a => ∃ k : Nat, k ≤ j ∧ a = .int .i64 k) (fun a => j - (intOf a).toNat)
 case atStart => exact ⟨0, by omega, rfl⟩
 case round =>
  obtain ⟨k, hk, rfl⟩ := hrel
  by_cases hlt : k < j
  ·have hk1 : k + 1 < l.length := by omega
   obtain ⟨c, hc⟩ : ∃ c, l[k]? = some c := ⟨_, List.getElem?_eq_getElem (by omega)⟩
   obtain ⟨c', hc'⟩ : ∃ c, l[k + 1]? = some c := ⟨_, List.getElem?_eq_getElem hk1⟩
   have i1 := idx_bs hc
   have i2 := idx_next hc'
   have w1 : IntKind.i64.wrap ((k : Int) + 1) = (k : Int) + 1 := IntWalk.i64_in _ (by omega)
   have hsz : (bs l).size = n := by rw [bs_size]; exact hn
   have td : decide ((k : Int) + 1 < (n : Int)) = true := decide_eq_true (by omega)
   have td2 : (k : Int) + 1 < (n : Int) := by omega
   by_cases x1 : c = 46
   ·subst x1
    have x2 : ¬ c' = 46 := fun e => HJ.1 k (by omega) ⟨hc, by rw [hc', e]⟩
    have t1 : (((46 : UInt8).toNat : Int) != 46) = false := by decide
    have t2 := ne46 x2
    generalize bs l = s at *
    generalize c'.toNat = m2 at *
    clear hj1 hj2 hjn hc hc' x2 hk1
    go_wp2_with fail
    go_round
    case rel => exact ⟨k + 1, by omega, by go_num⟩
    case measure => simp [intOf]; omega
   ·have t1 := ne46 x1
    generalize bs l = s at *
    generalize c.toNat = m1 at *
    clear hj1 hj2 hjn hc hc' x1 i2 hk1
    go_wp2_with fail
    go_round
    case rel => exact ⟨k + 1, by omega, by go_num⟩
    case measure => simp [intOf]; omega
  ·obtain rfl : k = j := by omega
   have i1 := idx_bs hj1
   have i2 := idx_next hj2
   have i3 := to_bs (l := l) (i := k) (by omega)
   have i4 := from_two (l := l) (i := k) (by omega)
   have w1 : IntKind.i64.wrap ((k : Int) + 1) = (k : Int) + 1 := IntWalk.i64_in _ (by omega)
   have w2 : IntKind.i64.wrap ((k : Int) + 2) = (k : Int) + 2 := IntWalk.i64_in _ (by omega)
   have hsz : (bs l).size = n := by rw [bs_size]; exact hn
   have td : decide ((k : Int) + 1 < (n : Int)) = true := decide_eq_true (by omega)
   have td2 : (k : Int) + 1 < (n : Int) := by omega
   have td3 : decide ((n : Int) ≤ (k : Int) + 1) = false := decide_eq_false (by omega)
   have td4 : ¬ (n : Int) ≤ (k : Int) + 1 := by omega
   have t1 : (((46 : UInt8).toNat : Int) != 46) = false := by decide
   generalize bs (l.take k) = s1 at *
   generalize bs (l.drop (k + 2)) = s2 at *
   generalize bs l = s at *
   clear hj1 hj2 hjn hn hk hlt hl
   go_wp2_with fail
   refine (r1.1 _).mono ?_
   rintro e u1 ⟨rfl, hbl⟩
   have HB := Kp.mk (HB.1.step hbl)
   have HZ := Kp.mk (HZ.1.step hbl)
   clear hbl
   go_upto_region 7 with fail
   have HX := Kp.mk (eb_new f d 24 HB.1.below)
   have hbl := (Below.refl u1.heap.size u1).alloc (Nat.le_refl _) (.cells #[.int .i8 f, .int .i64 d] 24)
   have HB := Kp.mk (HB.1.step hbl)
   have HZ := Kp.mk (HZ.1.step hbl)
   clear hbl
   generalize u1.alloc (.cells #[.int .i8 f, .int .i64 d] 24) = u2 at *
   generalize u1.heap.size = g1 at *
   have kHX0 := HX.1.c0
   have kHX1 := HX.1.c1
   go_wp2_with fail
   refine (r2.1 _).mono ?_
   rintro e u3 ⟨rfl, hbl⟩
   clear kHX0 kHX1
   have HB := Kp.mk (HB.1.step hbl)
   have HX := Kp.mk (HX.1.step hbl)
   have HZ := Kp.mk (HZ.1.step hbl)
   clear hbl
   have kHX0 := HX.1.c0
   have kHX1 := HX.1.c1
   go_upto_region 8 with fail
   clear kHX0 kHX1
   have HY := Kp.mk (eb_new g e 24 HB.1.below)
   have hbl := (Below.refl u3.heap.size u3).alloc (Nat.le_refl _) (.cells #[.int .i8 g, .int .i64 e] 24)
   have HB := Kp.mk (HB.1.step hbl)
   have HX := Kp.mk (HX.1.step hbl)
   have HZ := Kp.mk (HZ.1.step hbl)
   clear hbl
   generalize u3.alloc (.cells #[.int .i8 g, .int .i64 e] 24) = u4 at *
   generalize u3.heap.size = g2 at *
   have kHX0 := HX.1.c0
   have kHX1 := HX.1.c1
   have kHY0 := HY.1.c0
   have kHY1 := HY.1.c1
   go_upto_region 13 with fail
   clear kHX0 kHX1 kHY0 kHY1
   have HQ := Kp.mk (rg_new ⟨f, d, g, e⟩ 26 HB.1.below)
   have hbl := (Below.refl u4.heap.size u4).alloc (Nat.le_refl _) (.cells #[.int .i8 f, .int .i64 d, .int .i8 g, .int .i64 e] 26)
   clear HX HY
   have HB := Kp.mk (HB.1.step hbl)
   have HZ := Kp.mk (HZ.1.step hbl)
   clear hbl
   have q0 : (u4.alloc (.cells #[.int .i8 f, .int .i64 d, .int .i8 g, .int .i64 e] 26)).cell? ⟨u4.heap.size, 0, none⟩ = some (.int .i8 f) := HQ.1.c0
   have q1 : (u4.alloc (.cells #[.int .i8 f, .int .i64 d, .int .i8 g, .int .i64 e] 26)).cell? ⟨u4.heap.size, 1, none⟩ = some (.int .i64 d) := HQ.1.c1
   have q2 : (u4.alloc (.cells #[.int .i8 f, .int .i64 d, .int .i8 g, .int .i64 e] 26)).cell? ⟨u4.heap.size, 2, none⟩ = some (.int .i8 g) := HQ.1.c2
   have q3 : (u4.alloc (.cells #[.int .i8 f, .int .i64 d, .int .i8 g, .int .i64 e] 26)).cell? ⟨u4.heap.size, 3, none⟩ = some (.int .i64 e) := HQ.1.c3
   generalize u4.alloc (.cells #[.int .i8 f, .int .i64 d, .int .i8 g, .int .i64 e] 26) = u5 at *
   generalize u4.heap.size = g3 at *
   go_wp2_with fail
   refine (r3.1 _).mono ?_
   rintro e' u6 ⟨rfl, hbl⟩
   clear q0 q1 q2 q3
   have HZ := Kp.mk (HZ.1.step hbl)
   have HQ := Kp.mk (HQ.1.step hbl)
   clear hbl
   have q0 : u6.cell? ⟨g3, 0, none⟩ = some (.int .i8 f) := HQ.1.c0
   have q1 : u6.cell? ⟨g3, 1, none⟩ = some (.int .i64 d) := HQ.1.c1
   have q2 : u6.cell? ⟨g3, 2, none⟩ = some (.int .i8 g) := HQ.1.c2
   have q3 : u6.cell? ⟨g3, 3, none⟩ = some (.int .i64 e) := HQ.1.c3
   go_wp2_with (first
    | refine wpList_store_row' rfl 26 (.tmp 2) (.tmp 74) rfl w.heap.size #[.int .i8 f, .int .i64 d, .int .i8 g, .int .i64 e] rfl rfl 26 #[.int .i8 0, .int .i64 0, .int .i8 0, .int .i64 0] HZ.1.z infoRn rfl (four_rn _ _ _ _) ?_)
   refine bodyPost_ret (results_cell_tmp (p := 2) (ty := 26) rfl _ _ w.heap.size 26 #[.int .i8 f, .int .i64 d, .int .i8 g, .int .i64 e] (0, 0) _ rfl (setRow_heap _ _ _ _ _ _ HZ.1.z) Tryz.underlying26 rfl infoRn) rfl ?_
   exact ⟨rfl, below_setRow HZ.1.below (Nat.le_refl _) _⟩
theorem refRPar_is {l : List UInt8} {r : Rn} {c : Int} (hl : l.length ≤ 900) (h : ParR l r c) (w : World) :
 Calls Tryz.prog 35 #[.string (bs l)] w fun x w' => x = .returned (.tuple #[.agg #[.int .i8 r.f, .int .i64 r.d, .int .i8 r.g, .int .i64 r.e], .int .i64 c]) ∧ Below w.heap.size w w' := by
 rcases h with ⟨h, rfl, rfl⟩ | ⟨j, f, d, p, g, e, q, hj, h1, h2, ⟨h5, rfl, rfl⟩ | ⟨h5, h0, rfl, rfl⟩ | ⟨h0, hc, rfl, rfl⟩ | ⟨h0, hc, rfl, rfl⟩⟩
 ·exact refRPar_no hl h w
 ·by_cases x : p = 5
  ·exact refRPar_p5 hl hj h1 h2 x w
  ·exact refRPar_q5 hl hj h1 h2 x (by omega) w
 ·by_cases x : p = 0
  ·exact refRPar_q0 hl hj h1 h2 (by omega) (by omega) x (by omega) w
  ·exact refRPar_p0 hl hj h1 h2 (by omega) (by omega) x w
 ·exact refRPar_bad hl hj h1 h2 h0.1 h0.2 rfl hc w
 ·exact refRPar_good hl hj h1 h2 h0.1 h0.2 hc w
end Go.Proofs.YteddfolhpoikcaaGreatDoor
