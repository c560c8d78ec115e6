/-
  DERIVED. CONTRACTS of the reference's Int, and of the statements' own 'is'.
-/
import Derived.Test.YtbnlomjlapnoaaaDoorR1RefCmp
namespace Go.Proofs.YtbnlomjlapnoaaaDoor.R1
open Go.RowKit

theorem vl_drop_le (l : List Nat) (i : Nat) : vl (l.drop i) ≤ vl l := by
  rw [vl_split l i]
  have : 1 ≤ 10 ^ (l.take i).length := Nat.pos_of_ne_zero (by simp)
  have h2 : 1 * vl (l.drop i) ≤ 10 ^ (l.take i).length * vl (l.drop i) := Nat.mul_le_mul_right _ this
  omega
theorem of_least {l : Int} (hl : l = -9223372036854775808) (w : World) : Calls Tryd.prog 31 #[.int .i64 (-9223372036854775808)] w (SomeNum l w []) := by subst hl; exact of_any _ w (by omega) (by omega)
theorem of_most {l : Int} (hl : l = 9223372036854775807) (w : World) : Calls Tryd.prog 31 #[.int .i64 9223372036854775807] w (SomeNum l w []) := by subst hl; exact of_any _ w (by omega) (by omega)
theorem len_i64 (n : Int) (h0 : -9223372036854775808 ≤ n) (h1 : n ≤ 9223372036854775807) : (dg n.natAbs).length ≤ 1000 := by
  have := dg_length_le n.natAbs 19 (by omega); omega

set_option maxRecDepth 100000 in
set_option maxHeartbeats 1000000 in
theorem int_low (x : Int) (va : Value) (w : World) (hd : Digs w va (dg x.natAbs)) (hx : (dg x.natAbs).length ≤ 1000) (ho : x < -9223372036854775808) :
    Calls Tryd.prog 33 #[.agg #[.bool (decide (x < 0)), va]] w fun e w' => e = .returned (.tuple #[.int .i64 0, .bool false]) ∧ Below w.heap.size w w' := by
  obtain ⟨p, q, rfl⟩ := hd.head
  obtain ⟨l, hl⟩ : ∃ l : Int, l = -9223372036854775808 := ⟨_, rfl⟩
  obtain ⟨m, hm⟩ : ∃ m : Int, m = 9223372036854775807 := ⟨_, rfl⟩
  have ll := len_i64 l (by omega) (by omega)
  have lm := len_i64 m (by omega) (by omega)
  have hofl := fun w1 => of_least hl w1
  have hofm := fun w1 => of_most hm w1
  have HL := Lib.hid hofl; clear hofl
  have HM := Lib.hid hofm; clear hofm
  have hcl := fun (a : Option Addr) (cap : Nat) (w1 : World) (h1 : Digs w1 (.slice p (dg x.natAbs).length q) (dg x.natAbs)) (h2 : Digs w1 (.slice a (dg l.natAbs).length cap) (dg l.natAbs)) => ref_cmp x l _ _ w1 h1 h2 hx ll
  have hcm := fun (a : Option Addr) (cap : Nat) (w1 : World) (h1 : Digs w1 (.slice p (dg x.natAbs).length q) (dg x.natAbs)) (h2 : Digs w1 (.slice a (dg m.natAbs).length cap) (dg m.natAbs)) => ref_cmp x m _ _ w1 h1 h2 hx lm
  rw [show cmpI x l = -1 from if_pos (by omega)] at hcl
  have HCL := Lib.hid hcl; clear hcl
  have HCM := Lib.hid hcm; clear hcm
  have HD := Lib.hid hd; clear hd
  clear hl hm
  go_enter Tryd.func33, Tryd.ntmps33
  go_wp2_with fail
  refine (HL.out _).mono ?_
  rintro e w1 ⟨⟨a1, cap1, rfl, hd1, _⟩, hb1⟩
  have D1 := Lib.hid hd1; clear hd1
  have hz1 : w.heap.size + 1 ≤ w1.heap.size := by have := hb1.size; simp at this; omega
  have k0 : w1.cell? ⟨w.heap.size, 0, none⟩ = some (.bool (decide (x < 0))) := by rw [hb1.cell (p := ⟨w.heap.size, 0, none⟩) (by simp)]; simp [go_sem]
  have k1 : w1.cell? ⟨w.heap.size, 1, none⟩ = some (.slice p (dg x.natAbs).length q) := by rw [hb1.cell (p := ⟨w.heap.size, 1, none⟩) (by simp)]; simp [go_sem]
  have hB1 : Below w.heap.size w w1 := (below1 w _).trans (hb1.mono (by simp))
  clear hb1
  go_wp2_with fail
  refine (HM.out _).mono ?_
  rintro e w2 ⟨⟨a2, cap2, rfl, hd2, _⟩, hb2⟩
  have D2 := Lib.hid hd2; clear hd2
  have hz2 : w1.heap.size + 1 ≤ w2.heap.size := by have := hb2.size; simp at this; omega
  have m0 : w2.cell? ⟨w.heap.size, 0, none⟩ = some (.bool (decide (x < 0))) := by rw [hb2.cell (p := ⟨w.heap.size, 0, none⟩) (by simp; omega), (below1 w1 _).cell (p := ⟨w.heap.size, 0, none⟩) (show w.heap.size < w1.heap.size by omega)]; exact k0
  have m1 : w2.cell? ⟨w.heap.size, 1, none⟩ = some (.slice p (dg x.natAbs).length q) := by rw [hb2.cell (p := ⟨w.heap.size, 1, none⟩) (by simp; omega), (below1 w1 _).cell (p := ⟨w.heap.size, 1, none⟩) (show w.heap.size < w1.heap.size by omega)]; exact k1
  have m2 : w2.cell? ⟨w1.heap.size, 0, none⟩ = some (.bool (decide (l < 0))) := by rw [hb2.cell (p := ⟨w1.heap.size, 0, none⟩) (by simp)]; simp [go_sem]
  have m3 : w2.cell? ⟨w1.heap.size, 1, none⟩ = some (.slice a1 (dg l.natAbs).length cap1) := by rw [hb2.cell (p := ⟨w1.heap.size, 1, none⟩) (by simp)]; simp [go_sem]
  have E1 := Lib.hid (D1.out.below ((below1 w1 _).trans (hb2.mono (by simp))))
  have hB2 : Below w.heap.size w w2 := hB1.trans ((below1 w1 _ |>.mono (by omega)).trans (hb2.mono (by simp; omega)))
  clear hb2 D1 hB1 k0 k1
  have q0 : (w2.alloc (.cells #[.bool (decide (m < 0)), .slice a2 (dg m.natAbs).length cap2] NT)).cell? ⟨w.heap.size, 0, none⟩ = some (.bool (decide (x < 0))) := by rw [(below1 w2 _).cell (p := ⟨w.heap.size, 0, none⟩) (show w.heap.size < w2.heap.size by omega)]; exact m0
  have q1 : (w2.alloc (.cells #[.bool (decide (m < 0)), .slice a2 (dg m.natAbs).length cap2] NT)).cell? ⟨w.heap.size, 1, none⟩ = some (.slice p (dg x.natAbs).length q) := by rw [(below1 w2 _).cell (p := ⟨w.heap.size, 1, none⟩) (show w.heap.size < w2.heap.size by omega)]; exact m1
  have q2 : (w2.alloc (.cells #[.bool (decide (m < 0)), .slice a2 (dg m.natAbs).length cap2] NT)).cell? ⟨w1.heap.size, 0, none⟩ = some (.bool (decide (l < 0))) := by rw [(below1 w2 _).cell (p := ⟨w1.heap.size, 0, none⟩) (show w1.heap.size < w2.heap.size by omega)]; exact m2
  have q3 : (w2.alloc (.cells #[.bool (decide (m < 0)), .slice a2 (dg m.natAbs).length cap2] NT)).cell? ⟨w1.heap.size, 1, none⟩ = some (.slice a1 (dg l.natAbs).length cap1) := by rw [(below1 w2 _).cell (p := ⟨w1.heap.size, 1, none⟩) (show w1.heap.size < w2.heap.size by omega)]; exact m3
  go_wp2_with fail
  refine (HCL.out _ _ _ (HD.out.below (hB2.alloc (by omega) _)) (E1.out.below (below1 _ _))).mono ?_
  rintro e w3 ⟨rfl, hb3⟩
  have hz3 : w2.heap.size + 1 ≤ w3.heap.size := by have := hb3.size; simp at this; omega
  have n0 : w3.cell? ⟨w.heap.size, 0, none⟩ = some (.bool (decide (x < 0))) := by rw [hb3.cell (p := ⟨w.heap.size, 0, none⟩) (by simp; omega), (below1 w2 _).cell (p := ⟨w.heap.size, 0, none⟩) (show w.heap.size < w2.heap.size by omega)]; exact m0
  have n1 : w3.cell? ⟨w.heap.size, 1, none⟩ = some (.slice p (dg x.natAbs).length q) := by rw [hb3.cell (p := ⟨w.heap.size, 1, none⟩) (by simp; omega), (below1 w2 _).cell (p := ⟨w.heap.size, 1, none⟩) (show w.heap.size < w2.heap.size by omega)]; exact m1
  have n2 : w3.cell? ⟨w2.heap.size, 0, none⟩ = some (.bool (decide (m < 0))) := by rw [hb3.cell (p := ⟨w2.heap.size, 0, none⟩) (by simp)]; simp [go_sem]
  have n3 : w3.cell? ⟨w2.heap.size, 1, none⟩ = some (.slice a2 (dg m.natAbs).length cap2) := by rw [hb3.cell (p := ⟨w2.heap.size, 1, none⟩) (by simp)]; simp [go_sem]
  have hB3 : Below w.heap.size w w3 := (hB2.alloc (by omega) _).trans (hb3.mono (by simp; omega))
  have E2 := Lib.hid (D2.out.below ((below1 w2 _).trans (hb3.mono (by simp))))
  clear hb3 D2 E1 hB2 m0 m1 m2 m3 q0 q1 q2 q3
  go_wp2_with fail
  go_ret2
  exact ⟨rfl, hB3⟩

set_option maxRecDepth 100000 in
set_option maxHeartbeats 1000000 in
theorem int_high (x : Int) (va : Value) (w : World) (hd : Digs w va (dg x.natAbs)) (hx : (dg x.natAbs).length ≤ 1000) (ho : 9223372036854775807 < x) :
    Calls Tryd.prog 33 #[.agg #[.bool (decide (x < 0)), va]] w fun e w' => e = .returned (.tuple #[.int .i64 0, .bool false]) ∧ Below w.heap.size w w' := by
  obtain ⟨p, q, rfl⟩ := hd.head
  obtain ⟨l, hl⟩ : ∃ l : Int, l = -9223372036854775808 := ⟨_, rfl⟩
  obtain ⟨m, hm⟩ : ∃ m : Int, m = 9223372036854775807 := ⟨_, rfl⟩
  have ll := len_i64 l (by omega) (by omega)
  have lm := len_i64 m (by omega) (by omega)
  have hofl := fun w1 => of_least hl w1
  have hofm := fun w1 => of_most hm w1
  have HL := Lib.hid hofl; clear hofl
  have HM := Lib.hid hofm; clear hofm
  have hcl := fun (a : Option Addr) (cap : Nat) (w1 : World) (h1 : Digs w1 (.slice p (dg x.natAbs).length q) (dg x.natAbs)) (h2 : Digs w1 (.slice a (dg l.natAbs).length cap) (dg l.natAbs)) => ref_cmp x l _ _ w1 h1 h2 hx ll
  have hcm := fun (a : Option Addr) (cap : Nat) (w1 : World) (h1 : Digs w1 (.slice p (dg x.natAbs).length q) (dg x.natAbs)) (h2 : Digs w1 (.slice a (dg m.natAbs).length cap) (dg m.natAbs)) => ref_cmp x m _ _ w1 h1 h2 hx lm
  rw [show cmpI x l = 1 from by unfold cmpI; rw [if_neg (by omega), if_pos (by omega)]] at hcl
  rw [show cmpI x m = 1 from by unfold cmpI; rw [if_neg (by omega), if_pos (by omega)]] at hcm
  have HCL := Lib.hid hcl; clear hcl
  have HCM := Lib.hid hcm; clear hcm
  have HD := Lib.hid hd; clear hd
  clear hl hm
  go_enter Tryd.func33, Tryd.ntmps33
  go_wp2_with fail
  refine (HL.out _).mono ?_
  rintro e w1 ⟨⟨a1, cap1, rfl, hd1, _⟩, hb1⟩
  have D1 := Lib.hid hd1; clear hd1
  have hz1 : w.heap.size + 1 ≤ w1.heap.size := by have := hb1.size; simp at this; omega
  have k0 : w1.cell? ⟨w.heap.size, 0, none⟩ = some (.bool (decide (x < 0))) := by rw [hb1.cell (p := ⟨w.heap.size, 0, none⟩) (by simp)]; simp [go_sem]
  have k1 : w1.cell? ⟨w.heap.size, 1, none⟩ = some (.slice p (dg x.natAbs).length q) := by rw [hb1.cell (p := ⟨w.heap.size, 1, none⟩) (by simp)]; simp [go_sem]
  have hB1 : Below w.heap.size w w1 := (below1 w _).trans (hb1.mono (by simp))
  clear hb1
  go_wp2_with fail
  refine (HM.out _).mono ?_
  rintro e w2 ⟨⟨a2, cap2, rfl, hd2, _⟩, hb2⟩
  have D2 := Lib.hid hd2; clear hd2
  have hz2 : w1.heap.size + 1 ≤ w2.heap.size := by have := hb2.size; simp at this; omega
  have m0 : w2.cell? ⟨w.heap.size, 0, none⟩ = some (.bool (decide (x < 0))) := by rw [hb2.cell (p := ⟨w.heap.size, 0, none⟩) (by simp; omega), (below1 w1 _).cell (p := ⟨w.heap.size, 0, none⟩) (show w.heap.size < w1.heap.size by omega)]; exact k0
  have m1 : w2.cell? ⟨w.heap.size, 1, none⟩ = some (.slice p (dg x.natAbs).length q) := by rw [hb2.cell (p := ⟨w.heap.size, 1, none⟩) (by simp; omega), (below1 w1 _).cell (p := ⟨w.heap.size, 1, none⟩) (show w.heap.size < w1.heap.size by omega)]; exact k1
  have m2 : w2.cell? ⟨w1.heap.size, 0, none⟩ = some (.bool (decide (l < 0))) := by rw [hb2.cell (p := ⟨w1.heap.size, 0, none⟩) (by simp)]; simp [go_sem]
  have m3 : w2.cell? ⟨w1.heap.size, 1, none⟩ = some (.slice a1 (dg l.natAbs).length cap1) := by rw [hb2.cell (p := ⟨w1.heap.size, 1, none⟩) (by simp)]; simp [go_sem]
  have E1 := Lib.hid (D1.out.below ((below1 w1 _).trans (hb2.mono (by simp))))
  have hB2 : Below w.heap.size w w2 := hB1.trans ((below1 w1 _ |>.mono (by omega)).trans (hb2.mono (by simp; omega)))
  clear hb2 D1 hB1 k0 k1
  have q0 : (w2.alloc (.cells #[.bool (decide (m < 0)), .slice a2 (dg m.natAbs).length cap2] NT)).cell? ⟨w.heap.size, 0, none⟩ = some (.bool (decide (x < 0))) := by rw [(below1 w2 _).cell (p := ⟨w.heap.size, 0, none⟩) (show w.heap.size < w2.heap.size by omega)]; exact m0
  have q1 : (w2.alloc (.cells #[.bool (decide (m < 0)), .slice a2 (dg m.natAbs).length cap2] NT)).cell? ⟨w.heap.size, 1, none⟩ = some (.slice p (dg x.natAbs).length q) := by rw [(below1 w2 _).cell (p := ⟨w.heap.size, 1, none⟩) (show w.heap.size < w2.heap.size by omega)]; exact m1
  have q2 : (w2.alloc (.cells #[.bool (decide (m < 0)), .slice a2 (dg m.natAbs).length cap2] NT)).cell? ⟨w1.heap.size, 0, none⟩ = some (.bool (decide (l < 0))) := by rw [(below1 w2 _).cell (p := ⟨w1.heap.size, 0, none⟩) (show w1.heap.size < w2.heap.size by omega)]; exact m2
  have q3 : (w2.alloc (.cells #[.bool (decide (m < 0)), .slice a2 (dg m.natAbs).length cap2] NT)).cell? ⟨w1.heap.size, 1, none⟩ = some (.slice a1 (dg l.natAbs).length cap1) := by rw [(below1 w2 _).cell (p := ⟨w1.heap.size, 1, none⟩) (show w1.heap.size < w2.heap.size by omega)]; exact m3
  go_wp2_with fail
  refine (HCL.out _ _ _ (HD.out.below (hB2.alloc (by omega) _)) (E1.out.below (below1 _ _))).mono ?_
  rintro e w3 ⟨rfl, hb3⟩
  have hz3 : w2.heap.size + 1 ≤ w3.heap.size := by have := hb3.size; simp at this; omega
  have n0 : w3.cell? ⟨w.heap.size, 0, none⟩ = some (.bool (decide (x < 0))) := by rw [hb3.cell (p := ⟨w.heap.size, 0, none⟩) (by simp; omega), (below1 w2 _).cell (p := ⟨w.heap.size, 0, none⟩) (show w.heap.size < w2.heap.size by omega)]; exact m0
  have n1 : w3.cell? ⟨w.heap.size, 1, none⟩ = some (.slice p (dg x.natAbs).length q) := by rw [hb3.cell (p := ⟨w.heap.size, 1, none⟩) (by simp; omega), (below1 w2 _).cell (p := ⟨w.heap.size, 1, none⟩) (show w.heap.size < w2.heap.size by omega)]; exact m1
  have n2 : w3.cell? ⟨w2.heap.size, 0, none⟩ = some (.bool (decide (m < 0))) := by rw [hb3.cell (p := ⟨w2.heap.size, 0, none⟩) (by simp)]; simp [go_sem]
  have n3 : w3.cell? ⟨w2.heap.size, 1, none⟩ = some (.slice a2 (dg m.natAbs).length cap2) := by rw [hb3.cell (p := ⟨w2.heap.size, 1, none⟩) (by simp)]; simp [go_sem]
  have hB3 : Below w.heap.size w w3 := (hB2.alloc (by omega) _).trans (hb3.mono (by simp; omega))
  have E2 := Lib.hid (D2.out.below ((below1 w2 _).trans (hb3.mono (by simp))))
  clear hb3 D2 E1 hB2 m0 m1 m2 m3 q0 q1 q2 q3
  go_wp2_with fail
  refine (HCM.out _ _ _ (HD.out.below hB3) E2.out).mono ?_
  rintro e w4 ⟨rfl, hb4⟩
  have hB4 := hB3.trans (hb4.mono (by omega))
  go_wp2_with fail
  go_ret2
  exact ⟨rfl, hB4⟩

set_option maxRecDepth 100000 in
set_option maxHeartbeats 1000000 in
theorem int_in (x : Int) (va : Value) (w : World) (hd : Digs w va (dg x.natAbs)) (hx : (dg x.natAbs).length ≤ 1000) (h0 : -9223372036854775808 ≤ x) (h1 : x ≤ 9223372036854775807) :
    Calls Tryd.prog 33 #[.agg #[.bool (decide (x < 0)), va]] w fun e w' => e = .returned (.tuple #[.int .i64 x, .bool true]) ∧ Below w.heap.size w w' := by
  obtain ⟨p, q, rfl⟩ := hd.head
  obtain ⟨l, hl⟩ : ∃ l : Int, l = -9223372036854775808 := ⟨_, rfl⟩
  obtain ⟨m, hm⟩ : ∃ m : Int, m = 9223372036854775807 := ⟨_, rfl⟩
  have ll := len_i64 l (by omega) (by omega)
  have lm := len_i64 m (by omega) (by omega)
  have hofl := fun w1 => of_least hl w1
  have hofm := fun w1 => of_most hm w1
  have HL := Lib.hid hofl; clear hofl
  have HM := Lib.hid hofm; clear hofm
  have hcl := fun (a : Option Addr) (cap : Nat) (w1 : World) (h1 : Digs w1 (.slice p (dg x.natAbs).length q) (dg x.natAbs)) (h2 : Digs w1 (.slice a (dg l.natAbs).length cap) (dg l.natAbs)) => ref_cmp x l _ _ w1 h1 h2 hx ll
  have hcm := fun (a : Option Addr) (cap : Nat) (w1 : World) (h1 : Digs w1 (.slice p (dg x.natAbs).length q) (dg x.natAbs)) (h2 : Digs w1 (.slice a (dg m.natAbs).length cap) (dg m.natAbs)) => ref_cmp x m _ _ w1 h1 h2 hx lm
  have hc1 : 0 ≤ cmpI x l := by unfold cmpI; rw [if_neg (by omega)]; split <;> omega
  have hc2 : cmpI x m ≤ 0 := by
    unfold cmpI
    by_cases h : x < m
    · rw [if_pos h]; omega
    · rw [if_neg h, if_neg (by omega)]; omega
  generalize cmpI x l = c1 at *
  generalize cmpI x m = c2 at *
  have hv := vl_dg x.natAbs
  have h9 := dg_le x.natAbs
  have hxx : x < 0 ∨ 0 ≤ x := by omega
  have HCL := Lib.hid hcl; clear hcl
  have HCM := Lib.hid hcm; clear hcm
  have HD := Lib.hid hd; clear hd
  clear hl hm
  go_enter Tryd.func33, Tryd.ntmps33
  go_wp2_with fail
  refine (HL.out _).mono ?_
  rintro e w1 ⟨⟨a1, cap1, rfl, hd1, _⟩, hb1⟩
  have D1 := Lib.hid hd1; clear hd1
  have hz1 : w.heap.size + 1 ≤ w1.heap.size := by have := hb1.size; simp at this; omega
  have k0 : w1.cell? ⟨w.heap.size, 0, none⟩ = some (.bool (decide (x < 0))) := by rw [hb1.cell (p := ⟨w.heap.size, 0, none⟩) (by simp)]; simp [go_sem]
  have k1 : w1.cell? ⟨w.heap.size, 1, none⟩ = some (.slice p (dg x.natAbs).length q) := by rw [hb1.cell (p := ⟨w.heap.size, 1, none⟩) (by simp)]; simp [go_sem]
  have hB1 : Below w.heap.size w w1 := (below1 w _).trans (hb1.mono (by simp))
  clear hb1
  go_wp2_with fail
  refine (HM.out _).mono ?_
  rintro e w2 ⟨⟨a2, cap2, rfl, hd2, _⟩, hb2⟩
  have D2 := Lib.hid hd2; clear hd2
  have hz2 : w1.heap.size + 1 ≤ w2.heap.size := by have := hb2.size; simp at this; omega
  have m0 : w2.cell? ⟨w.heap.size, 0, none⟩ = some (.bool (decide (x < 0))) := by rw [hb2.cell (p := ⟨w.heap.size, 0, none⟩) (by simp; omega), (below1 w1 _).cell (p := ⟨w.heap.size, 0, none⟩) (show w.heap.size < w1.heap.size by omega)]; exact k0
  have m1 : w2.cell? ⟨w.heap.size, 1, none⟩ = some (.slice p (dg x.natAbs).length q) := by rw [hb2.cell (p := ⟨w.heap.size, 1, none⟩) (by simp; omega), (below1 w1 _).cell (p := ⟨w.heap.size, 1, none⟩) (show w.heap.size < w1.heap.size by omega)]; exact k1
  have m2 : w2.cell? ⟨w1.heap.size, 0, none⟩ = some (.bool (decide (l < 0))) := by rw [hb2.cell (p := ⟨w1.heap.size, 0, none⟩) (by simp)]; simp [go_sem]
  have m3 : w2.cell? ⟨w1.heap.size, 1, none⟩ = some (.slice a1 (dg l.natAbs).length cap1) := by rw [hb2.cell (p := ⟨w1.heap.size, 1, none⟩) (by simp)]; simp [go_sem]
  have E1 := Lib.hid (D1.out.below ((below1 w1 _).trans (hb2.mono (by simp))))
  have hB2 : Below w.heap.size w w2 := hB1.trans ((below1 w1 _ |>.mono (by omega)).trans (hb2.mono (by simp; omega)))
  clear hb2 D1 hB1 k0 k1
  have q0 : (w2.alloc (.cells #[.bool (decide (m < 0)), .slice a2 (dg m.natAbs).length cap2] NT)).cell? ⟨w.heap.size, 0, none⟩ = some (.bool (decide (x < 0))) := by rw [(below1 w2 _).cell (p := ⟨w.heap.size, 0, none⟩) (show w.heap.size < w2.heap.size by omega)]; exact m0
  have q1 : (w2.alloc (.cells #[.bool (decide (m < 0)), .slice a2 (dg m.natAbs).length cap2] NT)).cell? ⟨w.heap.size, 1, none⟩ = some (.slice p (dg x.natAbs).length q) := by rw [(below1 w2 _).cell (p := ⟨w.heap.size, 1, none⟩) (show w.heap.size < w2.heap.size by omega)]; exact m1
  have q2 : (w2.alloc (.cells #[.bool (decide (m < 0)), .slice a2 (dg m.natAbs).length cap2] NT)).cell? ⟨w1.heap.size, 0, none⟩ = some (.bool (decide (l < 0))) := by rw [(below1 w2 _).cell (p := ⟨w1.heap.size, 0, none⟩) (show w1.heap.size < w2.heap.size by omega)]; exact m2
  have q3 : (w2.alloc (.cells #[.bool (decide (m < 0)), .slice a2 (dg m.natAbs).length cap2] NT)).cell? ⟨w1.heap.size, 1, none⟩ = some (.slice a1 (dg l.natAbs).length cap1) := by rw [(below1 w2 _).cell (p := ⟨w1.heap.size, 1, none⟩) (show w1.heap.size < w2.heap.size by omega)]; exact m3
  go_wp2_with fail
  refine (HCL.out _ _ _ (HD.out.below (hB2.alloc (by omega) _)) (E1.out.below (below1 _ _))).mono ?_
  rintro e w3 ⟨rfl, hb3⟩
  have hz3 : w2.heap.size + 1 ≤ w3.heap.size := by have := hb3.size; simp at this; omega
  have n0 : w3.cell? ⟨w.heap.size, 0, none⟩ = some (.bool (decide (x < 0))) := by rw [hb3.cell (p := ⟨w.heap.size, 0, none⟩) (by simp; omega), (below1 w2 _).cell (p := ⟨w.heap.size, 0, none⟩) (show w.heap.size < w2.heap.size by omega)]; exact m0
  have n1 : w3.cell? ⟨w.heap.size, 1, none⟩ = some (.slice p (dg x.natAbs).length q) := by rw [hb3.cell (p := ⟨w.heap.size, 1, none⟩) (by simp; omega), (below1 w2 _).cell (p := ⟨w.heap.size, 1, none⟩) (show w.heap.size < w2.heap.size by omega)]; exact m1
  have n2 : w3.cell? ⟨w2.heap.size, 0, none⟩ = some (.bool (decide (m < 0))) := by rw [hb3.cell (p := ⟨w2.heap.size, 0, none⟩) (by simp)]; simp [go_sem]
  have n3 : w3.cell? ⟨w2.heap.size, 1, none⟩ = some (.slice a2 (dg m.natAbs).length cap2) := by rw [hb3.cell (p := ⟨w2.heap.size, 1, none⟩) (by simp)]; simp [go_sem]
  have hB3 : Below w.heap.size w w3 := (hB2.alloc (by omega) _).trans (hb3.mono (by simp; omega))
  have E2 := Lib.hid (D2.out.below ((below1 w2 _).trans (hb3.mono (by simp))))
  clear hb3 D2 E1 hB2 m0 m1 m2 m3 q0 q1 q2 q3
  go_wp2_with fail
  refine (HCM.out _ _ _ (HD.out.below hB3) E2.out).mono ?_
  rintro e w4 ⟨rfl, hb4⟩
  have hB4 := hB3.trans (hb4.mono (by omega))
  have o0 : w4.cell? ⟨w.heap.size, 0, none⟩ = some (.bool (decide (x < 0))) := by rw [hb4.cell (p := ⟨w.heap.size, 0, none⟩) (show w.heap.size < w3.heap.size by omega)]; exact n0
  have o1 : w4.cell? ⟨w.heap.size, 1, none⟩ = some (.slice p (dg x.natAbs).length q) := by rw [hb4.cell (p := ⟨w.heap.size, 1, none⟩) (show w.heap.size < w3.heap.size by omega)]; exact n1
  have HDD := Lib.hid (HD.out.below hB4)
  clear hb4 n0 n1 n2 n3 E2 hB3 HL HM HCL HCM
  have HV := Lib.hid hv; clear hv
  have H9 := Lib.hid h9; clear h9
  generalize dg x.natAbs = D at *
  rcases hxx with hxx | hxx
  · have hb0 : decide (x < 0) = true := decide_eq_true hxx
    rw [hb0] at o0
    clear hb0
    go_wp2_with fail
    go_loop [6, 7] (fun n i => ∃ z : Int, -1 ≤ z ∧ z < D.length ∧ i = .int .i64 z ∧ n = .int .i64 (-(vl (D.drop (z + 1).toNat) : Int))) (fun _ i => (intOf i + 1).toNat)
    case atStart => exact ⟨(D.length : Int) - 1, by omega, by omega, rfl, by rw [show ((D.length : Int) - 1 + 1).toNat = D.length from by omega, List.drop_length]; rfl⟩
    case round =>
      obtain ⟨z, hz1', hz2', rfl, rfl⟩ := hrel
      by_cases hz : 0 ≤ z
      · obtain ⟨k, rfl⟩ := Int.eq_ofNat_of_zero_le hz
        obtain ⟨b, cap, hs, _, _, _, _, hcells⟩ := HDD.out.slice (by omega)
        cases hs
        have cc := hcells k (by omega)
        clear hcells
        have k9 := at0_le D H9.out k
        have hst := vl_drop D k
        have hle := vl_drop_le D k
        have hvv := HV.out
        rw [show ((k : Int) + 1).toNat = k + 1 from by omega]
        have hfin : (10 * -(vl (D.drop (k + 1)) : Int) - (at0 D k : Int)) = -(vl (D.drop k) : Int) := by omega
        have HFIN := Lib.hid hfin; clear hfin
        have w1b : -9223372036854775808 ≤ 10 * -(vl (D.drop (k + 1)) : Int) ∧ 10 * -(vl (D.drop (k + 1)) : Int) ≤ 9223372036854775807 := by omega
        have w2b : -9223372036854775808 ≤ 10 * -(vl (D.drop (k + 1)) : Int) - (at0 D k : Int) ∧ 10 * -(vl (D.drop (k + 1)) : Int) - (at0 D k : Int) ≤ 9223372036854775807 := by omega
        obtain ⟨wa1, wa2⟩ := w1b
        obtain ⟨wb1, wb2⟩ := w2b
        clear hst hle hvv
        generalize vl (D.drop (k + 1)) = V at *
        go_wp2_with fail
        go_round
        case rel => exact ⟨(k : Int) - 1, by omega, by omega, rfl, by rw [show ((k : Int) - 1 + 1).toNat = k from by omega, ← HFIN.out]⟩
        case measure => simp [intOf] <;> omega
      · have hz3 : z = -1 := by omega
        subst hz3
        have hfin : -(vl (D.drop ((-1 : Int) + 1).toNat) : Int) = x := by
          have hvv := HV.out
          show -(vl D : Int) = x
          omega
        rw [hfin]
        clear hfin
        go_wp2_with fail
        go_ret2
        exact ⟨rfl, hB4⟩
  · have hb0 : decide (x < 0) = false := decide_eq_false (by omega)
    rw [hb0] at o0
    clear hb0
    go_wp2_with fail
    go_loop [6, 7] (fun n i => ∃ z : Int, -1 ≤ z ∧ z < D.length ∧ i = .int .i64 z ∧ n = .int .i64 ((vl (D.drop (z + 1).toNat) : Int))) (fun _ i => (intOf i + 1).toNat)
    case atStart => exact ⟨(D.length : Int) - 1, by omega, by omega, rfl, by rw [show ((D.length : Int) - 1 + 1).toNat = D.length from by omega, List.drop_length]; rfl⟩
    case round =>
      obtain ⟨z, hz1', hz2', rfl, rfl⟩ := hrel
      by_cases hz : 0 ≤ z
      · obtain ⟨k, rfl⟩ := Int.eq_ofNat_of_zero_le hz
        obtain ⟨b, cap, hs, _, _, _, _, hcells⟩ := HDD.out.slice (by omega)
        cases hs
        have cc := hcells k (by omega)
        clear hcells
        have k9 := at0_le D H9.out k
        have hst := vl_drop D k
        have hle := vl_drop_le D k
        have hvv := HV.out
        rw [show ((k : Int) + 1).toNat = k + 1 from by omega]
        have hfin : (10 * (vl (D.drop (k + 1)) : Int) + (at0 D k : Int)) = (vl (D.drop k) : Int) := by omega
        have HFIN := Lib.hid hfin; clear hfin
        have w1b : -9223372036854775808 ≤ 10 * (vl (D.drop (k + 1)) : Int) ∧ 10 * (vl (D.drop (k + 1)) : Int) ≤ 9223372036854775807 := by omega
        have w2b : -9223372036854775808 ≤ 10 * (vl (D.drop (k + 1)) : Int) + (at0 D k : Int) ∧ 10 * (vl (D.drop (k + 1)) : Int) + (at0 D k : Int) ≤ 9223372036854775807 := by omega
        obtain ⟨wa1, wa2⟩ := w1b
        obtain ⟨wb1, wb2⟩ := w2b
        clear hst hle hvv
        generalize vl (D.drop (k + 1)) = V at *
        go_wp2_with fail
        go_round
        case rel => exact ⟨(k : Int) - 1, by omega, by omega, rfl, by rw [show ((k : Int) - 1 + 1).toNat = k from by omega, ← HFIN.out]⟩
        case measure => simp [intOf] <;> omega
      · have hz3 : z = -1 := by omega
        subst hz3
        have hfin : (vl (D.drop ((-1 : Int) + 1).toNat) : Int) = x := by
          have hvv := HV.out
          show (vl D : Int) = x
          omega
        rw [hfin]
        clear hfin
        go_wp2_with fail
        go_ret2
        exact ⟨rfl, hB4⟩

theorem int_out (x : Int) (va : Value) (w : World) (hd : Digs w va (dg x.natAbs)) (hx : (dg x.natAbs).length ≤ 1000) (ho : ¬ (-9223372036854775808 ≤ x ∧ x ≤ 9223372036854775807)) :
    Calls Tryd.prog 33 #[.agg #[.bool (decide (x < 0)), va]] w fun e w' => e = .returned (.tuple #[.int .i64 0, .bool false]) ∧ Below w.heap.size w w' := by
  by_cases h : x < -9223372036854775808
  · exact int_low x va w hd hx h
  · exact int_high x va w hd hx (by omega)

end Go.Proofs.YtbnlomjlapnoaaaDoor.R1
