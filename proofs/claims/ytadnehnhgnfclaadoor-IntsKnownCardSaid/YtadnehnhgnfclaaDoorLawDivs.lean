/-
  DERIVED. WALK of the law IntsDivs.
-/
import Derived.Test.YtadnehnhgnfclaaDoorLawDivsA
namespace Go.Proofs.YtadnehnhgnfclaaDoor
open Go.RowKit Go.Deep

/-- a fact kept out of the walk's sight (a structure: no tactic looks through it) -/
structure Kp (p : Prop) : Prop where
  out : p
set_option maxRecDepth 100000 in
set_option maxHeartbeats 2000000 in
theorem divs_pnzl (a b c q m p : Int) (w : World) (hw : Laid w) (fa : fits a) (fb : fits b) (fq : fits q) (fm : fits m) (hv : q * b + m = a)
    (hD : Gives 19 a b q 0) (hM : Gives 20 a b m 0) (hC : Gives 19 c b p 0)
    (p1 : 0 < b) (p3 : m < b) (hm0 : m = 0) (hla : (a == -9223372036854775808) = false) (o1 : a < c) (o2 : q ≤ p) :
    Calls Tryd.prog 4 #[.int .i64 a, .int .i64 b, .int .i64 c] w fun e w' => e = .returned (.bool true) ∧ Below w.heap.size w w' := by
  have HW := Kp.mk hw; clear hw
  have HD := Kp.mk hD; clear hD
  have HM := Kp.mk hM; clear hM
  have HC := Kp.mk hC; clear hC
  have lq := len64 fq
  have lb := len64 fb
  have lm := len64 fm
  have la := len64 fa
  have l3 := len_mul fq fb
  have cM := fun (va vb : Value) (w1 : World) (h1 : Digs w1 va (dg q.natAbs)) (h2 : Digs w1 vb (dg b.natAbs)) => mul_any q b va vb w1 h1 h2 lq lb
  have cA := fun (va vb : Value) (w1 : World) (h1 : Digs w1 va (dg (q * b).natAbs)) (h2 : Digs w1 vb (dg m.natAbs)) => ref_add (q * b) m va vb w1 h1 h2 l3 lm
  have cC := fun (va vb : Value) (w1 : World) (h1 : Digs w1 va (dg a.natAbs)) (h2 : Digs w1 vb (dg a.natAbs)) => ref_cmp a a va vb w1 h1 h2 la la
  rw [show cmpI a a = 0 by unfold cmpI; rw [if_neg (by omega), if_neg (by omega)]] at cC
  clear lq lb lm la l3
  generalize q * b = x3 at *
  rw [hv] at cA
  have cM := Kp.mk cM
  have cA := Kp.mk cA
  have cC := Kp.mk cC
  have oq := Kp.mk (fun w1 => of_any q w1 fq.1 fq.2)
  have ob := Kp.mk (fun w1 => of_any b w1 fb.1 fb.2)
  have om := Kp.mk (fun w1 => of_any m w1 fm.1 fm.2)
  have oa := Kp.mk (fun w1 => of_any a w1 fa.1 fa.2)
  have hb0 : (b == 0) = false := beq_eq_false_iff_ne.2 (by omega)
  clear fa fb fq fm hv
  have e1 : decide (m < 0) = false := decide_eq_false (by omega)
  have e2 : decide (b < 0) = false := decide_eq_false (by omega)
  have e3 : decide (0 < b) = true := decide_eq_true (by omega)
  have e0 : (m != 0) = false := by simp; omega
  have e4 : decide (b ≤ m) = false := decide_eq_false (by omega)
  have f3 := Kp.mk (show decide (0 < b) = true from decide_eq_true (by omega))
  have f1 := Kp.mk (show decide (a ≤ c) = true from decide_eq_true (by omega))
  have f2 := Kp.mk (show decide (c ≤ a) = false from decide_eq_false (by omega))
  have f4 := Kp.mk (show decide (p < q) = false from decide_eq_false (by omega))
  clear p1 p3 hm0 o1 o2
  go_enter Tryd.func4, Tryd.ntmps4
  go_wp2_with fail
  refine (HD.out _).mono ?_
  rintro e w' ⟨rfl, rfl⟩
  go_wp2_with fail
  refine (HM.out _).mono ?_
  rintro e w' ⟨rfl, rfl⟩
  go_upto_region 7 with fail
  clear hla hb0
  go_upto_region 9 with fail
  clear e1 e2 e3 e0 e4
  go_wp2_with fail
  refine (oq.out _).mono ?_
  rintro e w1 ⟨⟨a1, q1, rfl, hd1, _⟩, hb1⟩
  have D1 := Kp.mk hd1; clear hd1
  go_wp2_with fail
  refine (ob.out _).mono ?_
  rintro e w2 ⟨⟨a2, q2, rfl, hd2, _⟩, hc⟩
  have D2 := Kp.mk hd2; clear hd2
  have D1 := Kp.mk (D1.out.below hc)
  have hb2 := hb1.trans (hc.mono hb1.size); clear hc hb1
  go_wp2_with fail
  refine (cM.out _ _ _ D1.out D2.out).mono ?_
  rintro e w3 ⟨⟨a3, q3, rfl, hd3, _⟩, hc⟩
  have D3 := Kp.mk hd3; clear hd3 D1 D2
  have hb3 := hb2.trans (hc.mono hb2.size); clear hc hb2
  go_wp2_with fail
  refine (om.out _).mono ?_
  rintro e w4 ⟨⟨a4, q4, rfl, hd4, _⟩, hc⟩
  have D4 := Kp.mk hd4; clear hd4
  have D3 := Kp.mk (D3.out.below hc)
  have hb4 := hb3.trans (hc.mono hb3.size); clear hc hb3
  go_wp2_with fail
  refine (cA.out _ _ _ D3.out D4.out).mono ?_
  rintro e w5 ⟨⟨a5, q5, rfl, hd5, _⟩, hc⟩
  have D5 := Kp.mk hd5; clear hd5 D3 D4
  have hb5 := hb4.trans (hc.mono hb4.size); clear hc hb4
  go_wp2_with fail
  refine (oa.out _).mono ?_
  rintro e w6 ⟨⟨a6, q6, rfl, hd6, _⟩, hc⟩
  have D6 := Kp.mk hd6; clear hd6
  have D5 := Kp.mk (D5.out.below hc)
  have hb6 := hb5.trans (hc.mono hb5.size); clear hc hb5
  go_wp2_with fail
  refine (cC.out _ _ _ D5.out D6.out).mono ?_
  rintro e w7 ⟨rfl, hc⟩
  have hb7 := hb6.trans (hc.mono hb6.size); clear hc hb6 D5 D6
  have f3 := f3.out
  have f1 := f1.out
  have f2 := f2.out
  have f4 := f4.out
  go_wp2_with fail
  refine (HC.out _).mono ?_
  rintro e w' ⟨rfl, rfl⟩
  go_wp2_with fail
  refine (lives_any _ (HW.out.below hb7)).mono ?_
  rintro e w8 ⟨rfl, hc⟩
  have hb8 := hb7.trans (hc.mono hb7.size); clear hc hb7
  go_wp2_with fail
  go_ret
  exact ⟨rfl, hb8⟩
set_option maxRecDepth 100000 in
set_option maxHeartbeats 2000000 in
theorem divs_pnze (a b c q m p : Int) (w : World) (hw : Laid w) (fa : fits a) (fb : fits b) (fq : fits q) (fm : fits m) (hv : q * b + m = a)
    (hD : Gives 19 a b q 0) (hM : Gives 20 a b m 0) (hC : Gives 19 c b p 0)
    (p1 : 0 < b) (p3 : m < b) (hm0 : m = 0) (hla : (a == -9223372036854775808) = false) (o1 : a = c) (o2 : q = p) :
    Calls Tryd.prog 4 #[.int .i64 a, .int .i64 b, .int .i64 c] w fun e w' => e = .returned (.bool true) ∧ Below w.heap.size w w' := by
  have HW := Kp.mk hw; clear hw
  have HD := Kp.mk hD; clear hD
  have HM := Kp.mk hM; clear hM
  have HC := Kp.mk hC; clear hC
  have lq := len64 fq
  have lb := len64 fb
  have lm := len64 fm
  have la := len64 fa
  have l3 := len_mul fq fb
  have cM := fun (va vb : Value) (w1 : World) (h1 : Digs w1 va (dg q.natAbs)) (h2 : Digs w1 vb (dg b.natAbs)) => mul_any q b va vb w1 h1 h2 lq lb
  have cA := fun (va vb : Value) (w1 : World) (h1 : Digs w1 va (dg (q * b).natAbs)) (h2 : Digs w1 vb (dg m.natAbs)) => ref_add (q * b) m va vb w1 h1 h2 l3 lm
  have cC := fun (va vb : Value) (w1 : World) (h1 : Digs w1 va (dg a.natAbs)) (h2 : Digs w1 vb (dg a.natAbs)) => ref_cmp a a va vb w1 h1 h2 la la
  rw [show cmpI a a = 0 by unfold cmpI; rw [if_neg (by omega), if_neg (by omega)]] at cC
  clear lq lb lm la l3
  generalize q * b = x3 at *
  rw [hv] at cA
  have cM := Kp.mk cM
  have cA := Kp.mk cA
  have cC := Kp.mk cC
  have oq := Kp.mk (fun w1 => of_any q w1 fq.1 fq.2)
  have ob := Kp.mk (fun w1 => of_any b w1 fb.1 fb.2)
  have om := Kp.mk (fun w1 => of_any m w1 fm.1 fm.2)
  have oa := Kp.mk (fun w1 => of_any a w1 fa.1 fa.2)
  have hb0 : (b == 0) = false := beq_eq_false_iff_ne.2 (by omega)
  clear fa fb fq fm hv
  have e1 : decide (m < 0) = false := decide_eq_false (by omega)
  have e2 : decide (b < 0) = false := decide_eq_false (by omega)
  have e3 : decide (0 < b) = true := decide_eq_true (by omega)
  have e0 : (m != 0) = false := by simp; omega
  have e4 : decide (b ≤ m) = false := decide_eq_false (by omega)
  have f3 := Kp.mk (show decide (0 < b) = true from decide_eq_true (by omega))
  have f1 := Kp.mk (show decide (a ≤ c) = true from decide_eq_true (by omega))
  have f2 := Kp.mk (show decide (c ≤ a) = true from decide_eq_true (by omega))
  have f4 := Kp.mk (show decide (p < q) = false from decide_eq_false (by omega))
  have f5 := Kp.mk (show decide (q < p) = false from decide_eq_false (by omega))
  clear p1 p3 hm0 o1 o2
  go_enter Tryd.func4, Tryd.ntmps4
  go_wp2_with fail
  refine (HD.out _).mono ?_
  rintro e w' ⟨rfl, rfl⟩
  go_wp2_with fail
  refine (HM.out _).mono ?_
  rintro e w' ⟨rfl, rfl⟩
  go_upto_region 7 with fail
  clear hla hb0
  go_upto_region 9 with fail
  clear e1 e2 e3 e0 e4
  go_wp2_with fail
  refine (oq.out _).mono ?_
  rintro e w1 ⟨⟨a1, q1, rfl, hd1, _⟩, hb1⟩
  have D1 := Kp.mk hd1; clear hd1
  go_wp2_with fail
  refine (ob.out _).mono ?_
  rintro e w2 ⟨⟨a2, q2, rfl, hd2, _⟩, hc⟩
  have D2 := Kp.mk hd2; clear hd2
  have D1 := Kp.mk (D1.out.below hc)
  have hb2 := hb1.trans (hc.mono hb1.size); clear hc hb1
  go_wp2_with fail
  refine (cM.out _ _ _ D1.out D2.out).mono ?_
  rintro e w3 ⟨⟨a3, q3, rfl, hd3, _⟩, hc⟩
  have D3 := Kp.mk hd3; clear hd3 D1 D2
  have hb3 := hb2.trans (hc.mono hb2.size); clear hc hb2
  go_wp2_with fail
  refine (om.out _).mono ?_
  rintro e w4 ⟨⟨a4, q4, rfl, hd4, _⟩, hc⟩
  have D4 := Kp.mk hd4; clear hd4
  have D3 := Kp.mk (D3.out.below hc)
  have hb4 := hb3.trans (hc.mono hb3.size); clear hc hb3
  go_wp2_with fail
  refine (cA.out _ _ _ D3.out D4.out).mono ?_
  rintro e w5 ⟨⟨a5, q5, rfl, hd5, _⟩, hc⟩
  have D5 := Kp.mk hd5; clear hd5 D3 D4
  have hb5 := hb4.trans (hc.mono hb4.size); clear hc hb4
  go_wp2_with fail
  refine (oa.out _).mono ?_
  rintro e w6 ⟨⟨a6, q6, rfl, hd6, _⟩, hc⟩
  have D6 := Kp.mk hd6; clear hd6
  have D5 := Kp.mk (D5.out.below hc)
  have hb6 := hb5.trans (hc.mono hb5.size); clear hc hb5
  go_wp2_with fail
  refine (cC.out _ _ _ D5.out D6.out).mono ?_
  rintro e w7 ⟨rfl, hc⟩
  have hb7 := hb6.trans (hc.mono hb6.size); clear hc hb6 D5 D6
  have f3 := f3.out
  have f1 := f1.out
  have f2 := f2.out
  have f4 := f4.out
  have f5 := f5.out
  go_wp2_with fail
  refine (HC.out _).mono ?_
  rintro e w' ⟨rfl, rfl⟩
  go_wp2_with fail
  refine (lives_any _ (HW.out.below hb7)).mono ?_
  rintro e w8 ⟨rfl, hc⟩
  have hb8 := hb7.trans (hc.mono hb7.size); clear hc hb7
  go_wp2_with fail
  go_ret
  exact ⟨rfl, hb8⟩
set_option maxRecDepth 100000 in
set_option maxHeartbeats 2000000 in
theorem divs_pnzg (a b c q m p : Int) (w : World) (hw : Laid w) (fa : fits a) (fb : fits b) (fq : fits q) (fm : fits m) (hv : q * b + m = a)
    (hD : Gives 19 a b q 0) (hM : Gives 20 a b m 0) (hC : Gives 19 c b p 0)
    (p1 : 0 < b) (p3 : m < b) (hm0 : m = 0) (hla : (a == -9223372036854775808) = false) (o1 : c < a) (o2 : p ≤ q) :
    Calls Tryd.prog 4 #[.int .i64 a, .int .i64 b, .int .i64 c] w fun e w' => e = .returned (.bool true) ∧ Below w.heap.size w w' := by
  have HW := Kp.mk hw; clear hw
  have HD := Kp.mk hD; clear hD
  have HM := Kp.mk hM; clear hM
  have HC := Kp.mk hC; clear hC
  have lq := len64 fq
  have lb := len64 fb
  have lm := len64 fm
  have la := len64 fa
  have l3 := len_mul fq fb
  have cM := fun (va vb : Value) (w1 : World) (h1 : Digs w1 va (dg q.natAbs)) (h2 : Digs w1 vb (dg b.natAbs)) => mul_any q b va vb w1 h1 h2 lq lb
  have cA := fun (va vb : Value) (w1 : World) (h1 : Digs w1 va (dg (q * b).natAbs)) (h2 : Digs w1 vb (dg m.natAbs)) => ref_add (q * b) m va vb w1 h1 h2 l3 lm
  have cC := fun (va vb : Value) (w1 : World) (h1 : Digs w1 va (dg a.natAbs)) (h2 : Digs w1 vb (dg a.natAbs)) => ref_cmp a a va vb w1 h1 h2 la la
  rw [show cmpI a a = 0 by unfold cmpI; rw [if_neg (by omega), if_neg (by omega)]] at cC
  clear lq lb lm la l3
  generalize q * b = x3 at *
  rw [hv] at cA
  have cM := Kp.mk cM
  have cA := Kp.mk cA
  have cC := Kp.mk cC
  have oq := Kp.mk (fun w1 => of_any q w1 fq.1 fq.2)
  have ob := Kp.mk (fun w1 => of_any b w1 fb.1 fb.2)
  have om := Kp.mk (fun w1 => of_any m w1 fm.1 fm.2)
  have oa := Kp.mk (fun w1 => of_any a w1 fa.1 fa.2)
  have hb0 : (b == 0) = false := beq_eq_false_iff_ne.2 (by omega)
  clear fa fb fq fm hv
  have e1 : decide (m < 0) = false := decide_eq_false (by omega)
  have e2 : decide (b < 0) = false := decide_eq_false (by omega)
  have e3 : decide (0 < b) = true := decide_eq_true (by omega)
  have e0 : (m != 0) = false := by simp; omega
  have e4 : decide (b ≤ m) = false := decide_eq_false (by omega)
  have f3 := Kp.mk (show decide (0 < b) = true from decide_eq_true (by omega))
  have f1 := Kp.mk (show decide (a ≤ c) = false from decide_eq_false (by omega))
  have f2 := Kp.mk (show decide (c ≤ a) = true from decide_eq_true (by omega))
  have f5 := Kp.mk (show decide (q < p) = false from decide_eq_false (by omega))
  clear p1 p3 hm0 o1 o2
  go_enter Tryd.func4, Tryd.ntmps4
  go_wp2_with fail
  refine (HD.out _).mono ?_
  rintro e w' ⟨rfl, rfl⟩
  go_wp2_with fail
  refine (HM.out _).mono ?_
  rintro e w' ⟨rfl, rfl⟩
  go_upto_region 7 with fail
  clear hla hb0
  go_upto_region 9 with fail
  clear e1 e2 e3 e0 e4
  go_wp2_with fail
  refine (oq.out _).mono ?_
  rintro e w1 ⟨⟨a1, q1, rfl, hd1, _⟩, hb1⟩
  have D1 := Kp.mk hd1; clear hd1
  go_wp2_with fail
  refine (ob.out _).mono ?_
  rintro e w2 ⟨⟨a2, q2, rfl, hd2, _⟩, hc⟩
  have D2 := Kp.mk hd2; clear hd2
  have D1 := Kp.mk (D1.out.below hc)
  have hb2 := hb1.trans (hc.mono hb1.size); clear hc hb1
  go_wp2_with fail
  refine (cM.out _ _ _ D1.out D2.out).mono ?_
  rintro e w3 ⟨⟨a3, q3, rfl, hd3, _⟩, hc⟩
  have D3 := Kp.mk hd3; clear hd3 D1 D2
  have hb3 := hb2.trans (hc.mono hb2.size); clear hc hb2
  go_wp2_with fail
  refine (om.out _).mono ?_
  rintro e w4 ⟨⟨a4, q4, rfl, hd4, _⟩, hc⟩
  have D4 := Kp.mk hd4; clear hd4
  have D3 := Kp.mk (D3.out.below hc)
  have hb4 := hb3.trans (hc.mono hb3.size); clear hc hb3
  go_wp2_with fail
  refine (cA.out _ _ _ D3.out D4.out).mono ?_
  rintro e w5 ⟨⟨a5, q5, rfl, hd5, _⟩, hc⟩
  have D5 := Kp.mk hd5; clear hd5 D3 D4
  have hb5 := hb4.trans (hc.mono hb4.size); clear hc hb4
  go_wp2_with fail
  refine (oa.out _).mono ?_
  rintro e w6 ⟨⟨a6, q6, rfl, hd6, _⟩, hc⟩
  have D6 := Kp.mk hd6; clear hd6
  have D5 := Kp.mk (D5.out.below hc)
  have hb6 := hb5.trans (hc.mono hb5.size); clear hc hb5
  go_wp2_with fail
  refine (cC.out _ _ _ D5.out D6.out).mono ?_
  rintro e w7 ⟨rfl, hc⟩
  have hb7 := hb6.trans (hc.mono hb6.size); clear hc hb6 D5 D6
  have f3 := f3.out
  have f1 := f1.out
  have f2 := f2.out
  have f5 := f5.out
  go_wp2_with fail
  refine (HC.out _).mono ?_
  rintro e w' ⟨rfl, rfl⟩
  go_wp2_with fail
  refine (lives_any _ (HW.out.below hb7)).mono ?_
  rintro e w8 ⟨rfl, hc⟩
  have hb8 := hb7.trans (hc.mono hb7.size); clear hc hb7
  go_wp2_with fail
  go_ret
  exact ⟨rfl, hb8⟩
set_option maxRecDepth 100000 in
set_option maxHeartbeats 2000000 in
theorem divs_pnnl (a b c q m p : Int) (w : World) (hw : Laid w) (fa : fits a) (fb : fits b) (fq : fits q) (fm : fits m) (hv : q * b + m = a)
    (hD : Gives 19 a b q 0) (hM : Gives 20 a b m 0) (hC : Gives 19 c b p 0)
    (p1 : 0 < b) (p3 : m < b) (hm0 : 0 < m) (hla : (a == -9223372036854775808) = false) (o1 : a < c) (o2 : q ≤ p) :
    Calls Tryd.prog 4 #[.int .i64 a, .int .i64 b, .int .i64 c] w fun e w' => e = .returned (.bool true) ∧ Below w.heap.size w w' := by
  have HW := Kp.mk hw; clear hw
  have HD := Kp.mk hD; clear hD
  have HM := Kp.mk hM; clear hM
  have HC := Kp.mk hC; clear hC
  have lq := len64 fq
  have lb := len64 fb
  have lm := len64 fm
  have la := len64 fa
  have l3 := len_mul fq fb
  have cM := fun (va vb : Value) (w1 : World) (h1 : Digs w1 va (dg q.natAbs)) (h2 : Digs w1 vb (dg b.natAbs)) => mul_any q b va vb w1 h1 h2 lq lb
  have cA := fun (va vb : Value) (w1 : World) (h1 : Digs w1 va (dg (q * b).natAbs)) (h2 : Digs w1 vb (dg m.natAbs)) => ref_add (q * b) m va vb w1 h1 h2 l3 lm
  have cC := fun (va vb : Value) (w1 : World) (h1 : Digs w1 va (dg a.natAbs)) (h2 : Digs w1 vb (dg a.natAbs)) => ref_cmp a a va vb w1 h1 h2 la la
  rw [show cmpI a a = 0 by unfold cmpI; rw [if_neg (by omega), if_neg (by omega)]] at cC
  clear lq lb lm la l3
  generalize q * b = x3 at *
  rw [hv] at cA
  have cM := Kp.mk cM
  have cA := Kp.mk cA
  have cC := Kp.mk cC
  have oq := Kp.mk (fun w1 => of_any q w1 fq.1 fq.2)
  have ob := Kp.mk (fun w1 => of_any b w1 fb.1 fb.2)
  have om := Kp.mk (fun w1 => of_any m w1 fm.1 fm.2)
  have oa := Kp.mk (fun w1 => of_any a w1 fa.1 fa.2)
  have hb0 : (b == 0) = false := beq_eq_false_iff_ne.2 (by omega)
  clear fa fb fq fm hv
  have e1 : decide (m < 0) = false := decide_eq_false (by omega)
  have e2 : decide (b < 0) = false := decide_eq_false (by omega)
  have e3 : decide (0 < b) = true := decide_eq_true (by omega)
  have e0 : (m != 0) = true := by simp; omega
  have e4 : decide (b ≤ m) = false := decide_eq_false (by omega)
  have f3 := Kp.mk (show decide (0 < b) = true from decide_eq_true (by omega))
  have f1 := Kp.mk (show decide (a ≤ c) = true from decide_eq_true (by omega))
  have f2 := Kp.mk (show decide (c ≤ a) = false from decide_eq_false (by omega))
  have f4 := Kp.mk (show decide (p < q) = false from decide_eq_false (by omega))
  clear p1 p3 hm0 o1 o2
  go_enter Tryd.func4, Tryd.ntmps4
  go_wp2_with fail
  refine (HD.out _).mono ?_
  rintro e w' ⟨rfl, rfl⟩
  go_wp2_with fail
  refine (HM.out _).mono ?_
  rintro e w' ⟨rfl, rfl⟩
  go_upto_region 7 with fail
  clear hla hb0
  go_upto_region 9 with fail
  clear e1 e2 e3 e0 e4
  go_wp2_with fail
  refine (oq.out _).mono ?_
  rintro e w1 ⟨⟨a1, q1, rfl, hd1, _⟩, hb1⟩
  have D1 := Kp.mk hd1; clear hd1
  go_wp2_with fail
  refine (ob.out _).mono ?_
  rintro e w2 ⟨⟨a2, q2, rfl, hd2, _⟩, hc⟩
  have D2 := Kp.mk hd2; clear hd2
  have D1 := Kp.mk (D1.out.below hc)
  have hb2 := hb1.trans (hc.mono hb1.size); clear hc hb1
  go_wp2_with fail
  refine (cM.out _ _ _ D1.out D2.out).mono ?_
  rintro e w3 ⟨⟨a3, q3, rfl, hd3, _⟩, hc⟩
  have D3 := Kp.mk hd3; clear hd3 D1 D2
  have hb3 := hb2.trans (hc.mono hb2.size); clear hc hb2
  go_wp2_with fail
  refine (om.out _).mono ?_
  rintro e w4 ⟨⟨a4, q4, rfl, hd4, _⟩, hc⟩
  have D4 := Kp.mk hd4; clear hd4
  have D3 := Kp.mk (D3.out.below hc)
  have hb4 := hb3.trans (hc.mono hb3.size); clear hc hb3
  go_wp2_with fail
  refine (cA.out _ _ _ D3.out D4.out).mono ?_
  rintro e w5 ⟨⟨a5, q5, rfl, hd5, _⟩, hc⟩
  have D5 := Kp.mk hd5; clear hd5 D3 D4
  have hb5 := hb4.trans (hc.mono hb4.size); clear hc hb4
  go_wp2_with fail
  refine (oa.out _).mono ?_
  rintro e w6 ⟨⟨a6, q6, rfl, hd6, _⟩, hc⟩
  have D6 := Kp.mk hd6; clear hd6
  have D5 := Kp.mk (D5.out.below hc)
  have hb6 := hb5.trans (hc.mono hb5.size); clear hc hb5
  go_wp2_with fail
  refine (cC.out _ _ _ D5.out D6.out).mono ?_
  rintro e w7 ⟨rfl, hc⟩
  have hb7 := hb6.trans (hc.mono hb6.size); clear hc hb6 D5 D6
  have f3 := f3.out
  have f1 := f1.out
  have f2 := f2.out
  have f4 := f4.out
  go_wp2_with fail
  refine (HC.out _).mono ?_
  rintro e w' ⟨rfl, rfl⟩
  go_wp2_with fail
  refine (lives_any _ (HW.out.below hb7)).mono ?_
  rintro e w8 ⟨rfl, hc⟩
  have hb8 := hb7.trans (hc.mono hb7.size); clear hc hb7
  go_wp2_with fail
  go_ret
  exact ⟨rfl, hb8⟩
set_option maxRecDepth 100000 in
set_option maxHeartbeats 2000000 in
theorem divs_pnne (a b c q m p : Int) (w : World) (hw : Laid w) (fa : fits a) (fb : fits b) (fq : fits q) (fm : fits m) (hv : q * b + m = a)
    (hD : Gives 19 a b q 0) (hM : Gives 20 a b m 0) (hC : Gives 19 c b p 0)
    (p1 : 0 < b) (p3 : m < b) (hm0 : 0 < m) (hla : (a == -9223372036854775808) = false) (o1 : a = c) (o2 : q = p) :
    Calls Tryd.prog 4 #[.int .i64 a, .int .i64 b, .int .i64 c] w fun e w' => e = .returned (.bool true) ∧ Below w.heap.size w w' := by
  have HW := Kp.mk hw; clear hw
  have HD := Kp.mk hD; clear hD
  have HM := Kp.mk hM; clear hM
  have HC := Kp.mk hC; clear hC
  have lq := len64 fq
  have lb := len64 fb
  have lm := len64 fm
  have la := len64 fa
  have l3 := len_mul fq fb
  have cM := fun (va vb : Value) (w1 : World) (h1 : Digs w1 va (dg q.natAbs)) (h2 : Digs w1 vb (dg b.natAbs)) => mul_any q b va vb w1 h1 h2 lq lb
  have cA := fun (va vb : Value) (w1 : World) (h1 : Digs w1 va (dg (q * b).natAbs)) (h2 : Digs w1 vb (dg m.natAbs)) => ref_add (q * b) m va vb w1 h1 h2 l3 lm
  have cC := fun (va vb : Value) (w1 : World) (h1 : Digs w1 va (dg a.natAbs)) (h2 : Digs w1 vb (dg a.natAbs)) => ref_cmp a a va vb w1 h1 h2 la la
  rw [show cmpI a a = 0 by unfold cmpI; rw [if_neg (by omega), if_neg (by omega)]] at cC
  clear lq lb lm la l3
  generalize q * b = x3 at *
  rw [hv] at cA
  have cM := Kp.mk cM
  have cA := Kp.mk cA
  have cC := Kp.mk cC
  have oq := Kp.mk (fun w1 => of_any q w1 fq.1 fq.2)
  have ob := Kp.mk (fun w1 => of_any b w1 fb.1 fb.2)
  have om := Kp.mk (fun w1 => of_any m w1 fm.1 fm.2)
  have oa := Kp.mk (fun w1 => of_any a w1 fa.1 fa.2)
  have hb0 : (b == 0) = false := beq_eq_false_iff_ne.2 (by omega)
  clear fa fb fq fm hv
  have e1 : decide (m < 0) = false := decide_eq_false (by omega)
  have e2 : decide (b < 0) = false := decide_eq_false (by omega)
  have e3 : decide (0 < b) = true := decide_eq_true (by omega)
  have e0 : (m != 0) = true := by simp; omega
  have e4 : decide (b ≤ m) = false := decide_eq_false (by omega)
  have f3 := Kp.mk (show decide (0 < b) = true from decide_eq_true (by omega))
  have f1 := Kp.mk (show decide (a ≤ c) = true from decide_eq_true (by omega))
  have f2 := Kp.mk (show decide (c ≤ a) = true from decide_eq_true (by omega))
  have f4 := Kp.mk (show decide (p < q) = false from decide_eq_false (by omega))
  have f5 := Kp.mk (show decide (q < p) = false from decide_eq_false (by omega))
  clear p1 p3 hm0 o1 o2
  go_enter Tryd.func4, Tryd.ntmps4
  go_wp2_with fail
  refine (HD.out _).mono ?_
  rintro e w' ⟨rfl, rfl⟩
  go_wp2_with fail
  refine (HM.out _).mono ?_
  rintro e w' ⟨rfl, rfl⟩
  go_upto_region 7 with fail
  clear hla hb0
  go_upto_region 9 with fail
  clear e1 e2 e3 e0 e4
  go_wp2_with fail
  refine (oq.out _).mono ?_
  rintro e w1 ⟨⟨a1, q1, rfl, hd1, _⟩, hb1⟩
  have D1 := Kp.mk hd1; clear hd1
  go_wp2_with fail
  refine (ob.out _).mono ?_
  rintro e w2 ⟨⟨a2, q2, rfl, hd2, _⟩, hc⟩
  have D2 := Kp.mk hd2; clear hd2
  have D1 := Kp.mk (D1.out.below hc)
  have hb2 := hb1.trans (hc.mono hb1.size); clear hc hb1
  go_wp2_with fail
  refine (cM.out _ _ _ D1.out D2.out).mono ?_
  rintro e w3 ⟨⟨a3, q3, rfl, hd3, _⟩, hc⟩
  have D3 := Kp.mk hd3; clear hd3 D1 D2
  have hb3 := hb2.trans (hc.mono hb2.size); clear hc hb2
  go_wp2_with fail
  refine (om.out _).mono ?_
  rintro e w4 ⟨⟨a4, q4, rfl, hd4, _⟩, hc⟩
  have D4 := Kp.mk hd4; clear hd4
  have D3 := Kp.mk (D3.out.below hc)
  have hb4 := hb3.trans (hc.mono hb3.size); clear hc hb3
  go_wp2_with fail
  refine (cA.out _ _ _ D3.out D4.out).mono ?_
  rintro e w5 ⟨⟨a5, q5, rfl, hd5, _⟩, hc⟩
  have D5 := Kp.mk hd5; clear hd5 D3 D4
  have hb5 := hb4.trans (hc.mono hb4.size); clear hc hb4
  go_wp2_with fail
  refine (oa.out _).mono ?_
  rintro e w6 ⟨⟨a6, q6, rfl, hd6, _⟩, hc⟩
  have D6 := Kp.mk hd6; clear hd6
  have D5 := Kp.mk (D5.out.below hc)
  have hb6 := hb5.trans (hc.mono hb5.size); clear hc hb5
  go_wp2_with fail
  refine (cC.out _ _ _ D5.out D6.out).mono ?_
  rintro e w7 ⟨rfl, hc⟩
  have hb7 := hb6.trans (hc.mono hb6.size); clear hc hb6 D5 D6
  have f3 := f3.out
  have f1 := f1.out
  have f2 := f2.out
  have f4 := f4.out
  have f5 := f5.out
  go_wp2_with fail
  refine (HC.out _).mono ?_
  rintro e w' ⟨rfl, rfl⟩
  go_wp2_with fail
  refine (lives_any _ (HW.out.below hb7)).mono ?_
  rintro e w8 ⟨rfl, hc⟩
  have hb8 := hb7.trans (hc.mono hb7.size); clear hc hb7
  go_wp2_with fail
  go_ret
  exact ⟨rfl, hb8⟩
set_option maxRecDepth 100000 in
set_option maxHeartbeats 2000000 in
theorem divs_pnng (a b c q m p : Int) (w : World) (hw : Laid w) (fa : fits a) (fb : fits b) (fq : fits q) (fm : fits m) (hv : q * b + m = a)
    (hD : Gives 19 a b q 0) (hM : Gives 20 a b m 0) (hC : Gives 19 c b p 0)
    (p1 : 0 < b) (p3 : m < b) (hm0 : 0 < m) (hla : (a == -9223372036854775808) = false) (o1 : c < a) (o2 : p ≤ q) :
    Calls Tryd.prog 4 #[.int .i64 a, .int .i64 b, .int .i64 c] w fun e w' => e = .returned (.bool true) ∧ Below w.heap.size w w' := by
  have HW := Kp.mk hw; clear hw
  have HD := Kp.mk hD; clear hD
  have HM := Kp.mk hM; clear hM
  have HC := Kp.mk hC; clear hC
  have lq := len64 fq
  have lb := len64 fb
  have lm := len64 fm
  have la := len64 fa
  have l3 := len_mul fq fb
  have cM := fun (va vb : Value) (w1 : World) (h1 : Digs w1 va (dg q.natAbs)) (h2 : Digs w1 vb (dg b.natAbs)) => mul_any q b va vb w1 h1 h2 lq lb
  have cA := fun (va vb : Value) (w1 : World) (h1 : Digs w1 va (dg (q * b).natAbs)) (h2 : Digs w1 vb (dg m.natAbs)) => ref_add (q * b) m va vb w1 h1 h2 l3 lm
  have cC := fun (va vb : Value) (w1 : World) (h1 : Digs w1 va (dg a.natAbs)) (h2 : Digs w1 vb (dg a.natAbs)) => ref_cmp a a va vb w1 h1 h2 la la
  rw [show cmpI a a = 0 by unfold cmpI; rw [if_neg (by omega), if_neg (by omega)]] at cC
  clear lq lb lm la l3
  generalize q * b = x3 at *
  rw [hv] at cA
  have cM := Kp.mk cM
  have cA := Kp.mk cA
  have cC := Kp.mk cC
  have oq := Kp.mk (fun w1 => of_any q w1 fq.1 fq.2)
  have ob := Kp.mk (fun w1 => of_any b w1 fb.1 fb.2)
  have om := Kp.mk (fun w1 => of_any m w1 fm.1 fm.2)
  have oa := Kp.mk (fun w1 => of_any a w1 fa.1 fa.2)
  have hb0 : (b == 0) = false := beq_eq_false_iff_ne.2 (by omega)
  clear fa fb fq fm hv
  have e1 : decide (m < 0) = false := decide_eq_false (by omega)
  have e2 : decide (b < 0) = false := decide_eq_false (by omega)
  have e3 : decide (0 < b) = true := decide_eq_true (by omega)
  have e0 : (m != 0) = true := by simp; omega
  have e4 : decide (b ≤ m) = false := decide_eq_false (by omega)
  have f3 := Kp.mk (show decide (0 < b) = true from decide_eq_true (by omega))
  have f1 := Kp.mk (show decide (a ≤ c) = false from decide_eq_false (by omega))
  have f2 := Kp.mk (show decide (c ≤ a) = true from decide_eq_true (by omega))
  have f5 := Kp.mk (show decide (q < p) = false from decide_eq_false (by omega))
  clear p1 p3 hm0 o1 o2
  go_enter Tryd.func4, Tryd.ntmps4
  go_wp2_with fail
  refine (HD.out _).mono ?_
  rintro e w' ⟨rfl, rfl⟩
  go_wp2_with fail
  refine (HM.out _).mono ?_
  rintro e w' ⟨rfl, rfl⟩
  go_upto_region 7 with fail
  clear hla hb0
  go_upto_region 9 with fail
  clear e1 e2 e3 e0 e4
  go_wp2_with fail
  refine (oq.out _).mono ?_
  rintro e w1 ⟨⟨a1, q1, rfl, hd1, _⟩, hb1⟩
  have D1 := Kp.mk hd1; clear hd1
  go_wp2_with fail
  refine (ob.out _).mono ?_
  rintro e w2 ⟨⟨a2, q2, rfl, hd2, _⟩, hc⟩
  have D2 := Kp.mk hd2; clear hd2
  have D1 := Kp.mk (D1.out.below hc)
  have hb2 := hb1.trans (hc.mono hb1.size); clear hc hb1
  go_wp2_with fail
  refine (cM.out _ _ _ D1.out D2.out).mono ?_
  rintro e w3 ⟨⟨a3, q3, rfl, hd3, _⟩, hc⟩
  have D3 := Kp.mk hd3; clear hd3 D1 D2
  have hb3 := hb2.trans (hc.mono hb2.size); clear hc hb2
  go_wp2_with fail
  refine (om.out _).mono ?_
  rintro e w4 ⟨⟨a4, q4, rfl, hd4, _⟩, hc⟩
  have D4 := Kp.mk hd4; clear hd4
  have D3 := Kp.mk (D3.out.below hc)
  have hb4 := hb3.trans (hc.mono hb3.size); clear hc hb3
  go_wp2_with fail
  refine (cA.out _ _ _ D3.out D4.out).mono ?_
  rintro e w5 ⟨⟨a5, q5, rfl, hd5, _⟩, hc⟩
  have D5 := Kp.mk hd5; clear hd5 D3 D4
  have hb5 := hb4.trans (hc.mono hb4.size); clear hc hb4
  go_wp2_with fail
  refine (oa.out _).mono ?_
  rintro e w6 ⟨⟨a6, q6, rfl, hd6, _⟩, hc⟩
  have D6 := Kp.mk hd6; clear hd6
  have D5 := Kp.mk (D5.out.below hc)
  have hb6 := hb5.trans (hc.mono hb5.size); clear hc hb5
  go_wp2_with fail
  refine (cC.out _ _ _ D5.out D6.out).mono ?_
  rintro e w7 ⟨rfl, hc⟩
  have hb7 := hb6.trans (hc.mono hb6.size); clear hc hb6 D5 D6
  have f3 := f3.out
  have f1 := f1.out
  have f2 := f2.out
  have f5 := f5.out
  go_wp2_with fail
  refine (HC.out _).mono ?_
  rintro e w' ⟨rfl, rfl⟩
  go_wp2_with fail
  refine (lives_any _ (HW.out.below hb7)).mono ?_
  rintro e w8 ⟨rfl, hc⟩
  have hb8 := hb7.trans (hc.mono hb7.size); clear hc hb7
  go_wp2_with fail
  go_ret
  exact ⟨rfl, hb8⟩
set_option maxRecDepth 100000 in
set_option maxHeartbeats 2000000 in
theorem divs_pyzl (a b c q m p : Int) (w : World) (hw : Laid w) (fa : fits a) (fb : fits b) (fq : fits q) (fm : fits m) (hv : q * b + m = a)
    (hD : Gives 19 a b q 0) (hM : Gives 20 a b m 0) (hC : Gives 19 c b p 0)
    (p1 : 0 < b) (p3 : m < b) (hm0 : m = 0) (hla : (a == -9223372036854775808) = true) (hlb : (b == -1) = false) (o1 : a < c) (o2 : q ≤ p) :
    Calls Tryd.prog 4 #[.int .i64 a, .int .i64 b, .int .i64 c] w fun e w' => e = .returned (.bool true) ∧ Below w.heap.size w w' := by
  have HW := Kp.mk hw; clear hw
  have HD := Kp.mk hD; clear hD
  have HM := Kp.mk hM; clear hM
  have HC := Kp.mk hC; clear hC
  have lq := len64 fq
  have lb := len64 fb
  have lm := len64 fm
  have la := len64 fa
  have l3 := len_mul fq fb
  have cM := fun (va vb : Value) (w1 : World) (h1 : Digs w1 va (dg q.natAbs)) (h2 : Digs w1 vb (dg b.natAbs)) => mul_any q b va vb w1 h1 h2 lq lb
  have cA := fun (va vb : Value) (w1 : World) (h1 : Digs w1 va (dg (q * b).natAbs)) (h2 : Digs w1 vb (dg m.natAbs)) => ref_add (q * b) m va vb w1 h1 h2 l3 lm
  have cC := fun (va vb : Value) (w1 : World) (h1 : Digs w1 va (dg a.natAbs)) (h2 : Digs w1 vb (dg a.natAbs)) => ref_cmp a a va vb w1 h1 h2 la la
  rw [show cmpI a a = 0 by unfold cmpI; rw [if_neg (by omega), if_neg (by omega)]] at cC
  clear lq lb lm la l3
  generalize q * b = x3 at *
  rw [hv] at cA
  have cM := Kp.mk cM
  have cA := Kp.mk cA
  have cC := Kp.mk cC
  have oq := Kp.mk (fun w1 => of_any q w1 fq.1 fq.2)
  have ob := Kp.mk (fun w1 => of_any b w1 fb.1 fb.2)
  have om := Kp.mk (fun w1 => of_any m w1 fm.1 fm.2)
  have oa := Kp.mk (fun w1 => of_any a w1 fa.1 fa.2)
  have hb0 : (b == 0) = false := beq_eq_false_iff_ne.2 (by omega)
  clear fa fb fq fm hv
  have e1 : decide (m < 0) = false := decide_eq_false (by omega)
  have e2 : decide (b < 0) = false := decide_eq_false (by omega)
  have e3 : decide (0 < b) = true := decide_eq_true (by omega)
  have e0 : (m != 0) = false := by simp; omega
  have e4 : decide (b ≤ m) = false := decide_eq_false (by omega)
  have f3 := Kp.mk (show decide (0 < b) = true from decide_eq_true (by omega))
  have f1 := Kp.mk (show decide (a ≤ c) = true from decide_eq_true (by omega))
  have f2 := Kp.mk (show decide (c ≤ a) = false from decide_eq_false (by omega))
  have f4 := Kp.mk (show decide (p < q) = false from decide_eq_false (by omega))
  clear p1 p3 hm0 o1 o2
  go_enter Tryd.func4, Tryd.ntmps4
  go_wp2_with fail
  refine (HD.out _).mono ?_
  rintro e w' ⟨rfl, rfl⟩
  go_wp2_with fail
  refine (HM.out _).mono ?_
  rintro e w' ⟨rfl, rfl⟩
  go_upto_region 7 with fail
  clear hla hb0 hlb
  go_upto_region 9 with fail
  clear e1 e2 e3 e0 e4
  go_wp2_with fail
  refine (oq.out _).mono ?_
  rintro e w1 ⟨⟨a1, q1, rfl, hd1, _⟩, hb1⟩
  have D1 := Kp.mk hd1; clear hd1
  go_wp2_with fail
  refine (ob.out _).mono ?_
  rintro e w2 ⟨⟨a2, q2, rfl, hd2, _⟩, hc⟩
  have D2 := Kp.mk hd2; clear hd2
  have D1 := Kp.mk (D1.out.below hc)
  have hb2 := hb1.trans (hc.mono hb1.size); clear hc hb1
  go_wp2_with fail
  refine (cM.out _ _ _ D1.out D2.out).mono ?_
  rintro e w3 ⟨⟨a3, q3, rfl, hd3, _⟩, hc⟩
  have D3 := Kp.mk hd3; clear hd3 D1 D2
  have hb3 := hb2.trans (hc.mono hb2.size); clear hc hb2
  go_wp2_with fail
  refine (om.out _).mono ?_
  rintro e w4 ⟨⟨a4, q4, rfl, hd4, _⟩, hc⟩
  have D4 := Kp.mk hd4; clear hd4
  have D3 := Kp.mk (D3.out.below hc)
  have hb4 := hb3.trans (hc.mono hb3.size); clear hc hb3
  go_wp2_with fail
  refine (cA.out _ _ _ D3.out D4.out).mono ?_
  rintro e w5 ⟨⟨a5, q5, rfl, hd5, _⟩, hc⟩
  have D5 := Kp.mk hd5; clear hd5 D3 D4
  have hb5 := hb4.trans (hc.mono hb4.size); clear hc hb4
  go_wp2_with fail
  refine (oa.out _).mono ?_
  rintro e w6 ⟨⟨a6, q6, rfl, hd6, _⟩, hc⟩
  have D6 := Kp.mk hd6; clear hd6
  have D5 := Kp.mk (D5.out.below hc)
  have hb6 := hb5.trans (hc.mono hb5.size); clear hc hb5
  go_wp2_with fail
  refine (cC.out _ _ _ D5.out D6.out).mono ?_
  rintro e w7 ⟨rfl, hc⟩
  have hb7 := hb6.trans (hc.mono hb6.size); clear hc hb6 D5 D6
  have f3 := f3.out
  have f1 := f1.out
  have f2 := f2.out
  have f4 := f4.out
  go_wp2_with fail
  refine (HC.out _).mono ?_
  rintro e w' ⟨rfl, rfl⟩
  go_wp2_with fail
  refine (lives_any _ (HW.out.below hb7)).mono ?_
  rintro e w8 ⟨rfl, hc⟩
  have hb8 := hb7.trans (hc.mono hb7.size); clear hc hb7
  go_wp2_with fail
  go_ret
  exact ⟨rfl, hb8⟩
set_option maxRecDepth 100000 in
set_option maxHeartbeats 2000000 in
theorem divs_pyze (a b c q m p : Int) (w : World) (hw : Laid w) (fa : fits a) (fb : fits b) (fq : fits q) (fm : fits m) (hv : q * b + m = a)
    (hD : Gives 19 a b q 0) (hM : Gives 20 a b m 0) (hC : Gives 19 c b p 0)
    (p1 : 0 < b) (p3 : m < b) (hm0 : m = 0) (hla : (a == -9223372036854775808) = true) (hlb : (b == -1) = false) (o1 : a = c) (o2 : q = p) :
    Calls Tryd.prog 4 #[.int .i64 a, .int .i64 b, .int .i64 c] w fun e w' => e = .returned (.bool true) ∧ Below w.heap.size w w' := by
  have HW := Kp.mk hw; clear hw
  have HD := Kp.mk hD; clear hD
  have HM := Kp.mk hM; clear hM
  have HC := Kp.mk hC; clear hC
  have lq := len64 fq
  have lb := len64 fb
  have lm := len64 fm
  have la := len64 fa
  have l3 := len_mul fq fb
  have cM := fun (va vb : Value) (w1 : World) (h1 : Digs w1 va (dg q.natAbs)) (h2 : Digs w1 vb (dg b.natAbs)) => mul_any q b va vb w1 h1 h2 lq lb
  have cA := fun (va vb : Value) (w1 : World) (h1 : Digs w1 va (dg (q * b).natAbs)) (h2 : Digs w1 vb (dg m.natAbs)) => ref_add (q * b) m va vb w1 h1 h2 l3 lm
  have cC := fun (va vb : Value) (w1 : World) (h1 : Digs w1 va (dg a.natAbs)) (h2 : Digs w1 vb (dg a.natAbs)) => ref_cmp a a va vb w1 h1 h2 la la
  rw [show cmpI a a = 0 by unfold cmpI; rw [if_neg (by omega), if_neg (by omega)]] at cC
  clear lq lb lm la l3
  generalize q * b = x3 at *
  rw [hv] at cA
  have cM := Kp.mk cM
  have cA := Kp.mk cA
  have cC := Kp.mk cC
  have oq := Kp.mk (fun w1 => of_any q w1 fq.1 fq.2)
  have ob := Kp.mk (fun w1 => of_any b w1 fb.1 fb.2)
  have om := Kp.mk (fun w1 => of_any m w1 fm.1 fm.2)
  have oa := Kp.mk (fun w1 => of_any a w1 fa.1 fa.2)
  have hb0 : (b == 0) = false := beq_eq_false_iff_ne.2 (by omega)
  clear fa fb fq fm hv
  have e1 : decide (m < 0) = false := decide_eq_false (by omega)
  have e2 : decide (b < 0) = false := decide_eq_false (by omega)
  have e3 : decide (0 < b) = true := decide_eq_true (by omega)
  have e0 : (m != 0) = false := by simp; omega
  have e4 : decide (b ≤ m) = false := decide_eq_false (by omega)
  have f3 := Kp.mk (show decide (0 < b) = true from decide_eq_true (by omega))
  have f1 := Kp.mk (show decide (a ≤ c) = true from decide_eq_true (by omega))
  have f2 := Kp.mk (show decide (c ≤ a) = true from decide_eq_true (by omega))
  have f4 := Kp.mk (show decide (p < q) = false from decide_eq_false (by omega))
  have f5 := Kp.mk (show decide (q < p) = false from decide_eq_false (by omega))
  clear p1 p3 hm0 o1 o2
  go_enter Tryd.func4, Tryd.ntmps4
  go_wp2_with fail
  refine (HD.out _).mono ?_
  rintro e w' ⟨rfl, rfl⟩
  go_wp2_with fail
  refine (HM.out _).mono ?_
  rintro e w' ⟨rfl, rfl⟩
  go_upto_region 7 with fail
  clear hla hb0 hlb
  go_upto_region 9 with fail
  clear e1 e2 e3 e0 e4
  go_wp2_with fail
  refine (oq.out _).mono ?_
  rintro e w1 ⟨⟨a1, q1, rfl, hd1, _⟩, hb1⟩
  have D1 := Kp.mk hd1; clear hd1
  go_wp2_with fail
  refine (ob.out _).mono ?_
  rintro e w2 ⟨⟨a2, q2, rfl, hd2, _⟩, hc⟩
  have D2 := Kp.mk hd2; clear hd2
  have D1 := Kp.mk (D1.out.below hc)
  have hb2 := hb1.trans (hc.mono hb1.size); clear hc hb1
  go_wp2_with fail
  refine (cM.out _ _ _ D1.out D2.out).mono ?_
  rintro e w3 ⟨⟨a3, q3, rfl, hd3, _⟩, hc⟩
  have D3 := Kp.mk hd3; clear hd3 D1 D2
  have hb3 := hb2.trans (hc.mono hb2.size); clear hc hb2
  go_wp2_with fail
  refine (om.out _).mono ?_
  rintro e w4 ⟨⟨a4, q4, rfl, hd4, _⟩, hc⟩
  have D4 := Kp.mk hd4; clear hd4
  have D3 := Kp.mk (D3.out.below hc)
  have hb4 := hb3.trans (hc.mono hb3.size); clear hc hb3
  go_wp2_with fail
  refine (cA.out _ _ _ D3.out D4.out).mono ?_
  rintro e w5 ⟨⟨a5, q5, rfl, hd5, _⟩, hc⟩
  have D5 := Kp.mk hd5; clear hd5 D3 D4
  have hb5 := hb4.trans (hc.mono hb4.size); clear hc hb4
  go_wp2_with fail
  refine (oa.out _).mono ?_
  rintro e w6 ⟨⟨a6, q6, rfl, hd6, _⟩, hc⟩
  have D6 := Kp.mk hd6; clear hd6
  have D5 := Kp.mk (D5.out.below hc)
  have hb6 := hb5.trans (hc.mono hb5.size); clear hc hb5
  go_wp2_with fail
  refine (cC.out _ _ _ D5.out D6.out).mono ?_
  rintro e w7 ⟨rfl, hc⟩
  have hb7 := hb6.trans (hc.mono hb6.size); clear hc hb6 D5 D6
  have f3 := f3.out
  have f1 := f1.out
  have f2 := f2.out
  have f4 := f4.out
  have f5 := f5.out
  go_wp2_with fail
  refine (HC.out _).mono ?_
  rintro e w' ⟨rfl, rfl⟩
  go_wp2_with fail
  refine (lives_any _ (HW.out.below hb7)).mono ?_
  rintro e w8 ⟨rfl, hc⟩
  have hb8 := hb7.trans (hc.mono hb7.size); clear hc hb7
  go_wp2_with fail
  go_ret
  exact ⟨rfl, hb8⟩
set_option maxRecDepth 100000 in
set_option maxHeartbeats 2000000 in
theorem divs_pyzg (a b c q m p : Int) (w : World) (hw : Laid w) (fa : fits a) (fb : fits b) (fq : fits q) (fm : fits m) (hv : q * b + m = a)
    (hD : Gives 19 a b q 0) (hM : Gives 20 a b m 0) (hC : Gives 19 c b p 0)
    (p1 : 0 < b) (p3 : m < b) (hm0 : m = 0) (hla : (a == -9223372036854775808) = true) (hlb : (b == -1) = false) (o1 : c < a) (o2 : p ≤ q) :
    Calls Tryd.prog 4 #[.int .i64 a, .int .i64 b, .int .i64 c] w fun e w' => e = .returned (.bool true) ∧ Below w.heap.size w w' := by
  have HW := Kp.mk hw; clear hw
  have HD := Kp.mk hD; clear hD
  have HM := Kp.mk hM; clear hM
  have HC := Kp.mk hC; clear hC
  have lq := len64 fq
  have lb := len64 fb
  have lm := len64 fm
  have la := len64 fa
  have l3 := len_mul fq fb
  have cM := fun (va vb : Value) (w1 : World) (h1 : Digs w1 va (dg q.natAbs)) (h2 : Digs w1 vb (dg b.natAbs)) => mul_any q b va vb w1 h1 h2 lq lb
  have cA := fun (va vb : Value) (w1 : World) (h1 : Digs w1 va (dg (q * b).natAbs)) (h2 : Digs w1 vb (dg m.natAbs)) => ref_add (q * b) m va vb w1 h1 h2 l3 lm
  have cC := fun (va vb : Value) (w1 : World) (h1 : Digs w1 va (dg a.natAbs)) (h2 : Digs w1 vb (dg a.natAbs)) => ref_cmp a a va vb w1 h1 h2 la la
  rw [show cmpI a a = 0 by unfold cmpI; rw [if_neg (by omega), if_neg (by omega)]] at cC
  clear lq lb lm la l3
  generalize q * b = x3 at *
  rw [hv] at cA
  have cM := Kp.mk cM
  have cA := Kp.mk cA
  have cC := Kp.mk cC
  have oq := Kp.mk (fun w1 => of_any q w1 fq.1 fq.2)
  have ob := Kp.mk (fun w1 => of_any b w1 fb.1 fb.2)
  have om := Kp.mk (fun w1 => of_any m w1 fm.1 fm.2)
  have oa := Kp.mk (fun w1 => of_any a w1 fa.1 fa.2)
  have hb0 : (b == 0) = false := beq_eq_false_iff_ne.2 (by omega)
  clear fa fb fq fm hv
  have e1 : decide (m < 0) = false := decide_eq_false (by omega)
  have e2 : decide (b < 0) = false := decide_eq_false (by omega)
  have e3 : decide (0 < b) = true := decide_eq_true (by omega)
  have e0 : (m != 0) = false := by simp; omega
  have e4 : decide (b ≤ m) = false := decide_eq_false (by omega)
  have f3 := Kp.mk (show decide (0 < b) = true from decide_eq_true (by omega))
  have f1 := Kp.mk (show decide (a ≤ c) = false from decide_eq_false (by omega))
  have f2 := Kp.mk (show decide (c ≤ a) = true from decide_eq_true (by omega))
  have f5 := Kp.mk (show decide (q < p) = false from decide_eq_false (by omega))
  clear p1 p3 hm0 o1 o2
  go_enter Tryd.func4, Tryd.ntmps4
  go_wp2_with fail
  refine (HD.out _).mono ?_
  rintro e w' ⟨rfl, rfl⟩
  go_wp2_with fail
  refine (HM.out _).mono ?_
  rintro e w' ⟨rfl, rfl⟩
  go_upto_region 7 with fail
  clear hla hb0 hlb
  go_upto_region 9 with fail
  clear e1 e2 e3 e0 e4
  go_wp2_with fail
  refine (oq.out _).mono ?_
  rintro e w1 ⟨⟨a1, q1, rfl, hd1, _⟩, hb1⟩
  have D1 := Kp.mk hd1; clear hd1
  go_wp2_with fail
  refine (ob.out _).mono ?_
  rintro e w2 ⟨⟨a2, q2, rfl, hd2, _⟩, hc⟩
  have D2 := Kp.mk hd2; clear hd2
  have D1 := Kp.mk (D1.out.below hc)
  have hb2 := hb1.trans (hc.mono hb1.size); clear hc hb1
  go_wp2_with fail
  refine (cM.out _ _ _ D1.out D2.out).mono ?_
  rintro e w3 ⟨⟨a3, q3, rfl, hd3, _⟩, hc⟩
  have D3 := Kp.mk hd3; clear hd3 D1 D2
  have hb3 := hb2.trans (hc.mono hb2.size); clear hc hb2
  go_wp2_with fail
  refine (om.out _).mono ?_
  rintro e w4 ⟨⟨a4, q4, rfl, hd4, _⟩, hc⟩
  have D4 := Kp.mk hd4; clear hd4
  have D3 := Kp.mk (D3.out.below hc)
  have hb4 := hb3.trans (hc.mono hb3.size); clear hc hb3
  go_wp2_with fail
  refine (cA.out _ _ _ D3.out D4.out).mono ?_
  rintro e w5 ⟨⟨a5, q5, rfl, hd5, _⟩, hc⟩
  have D5 := Kp.mk hd5; clear hd5 D3 D4
  have hb5 := hb4.trans (hc.mono hb4.size); clear hc hb4
  go_wp2_with fail
  refine (oa.out _).mono ?_
  rintro e w6 ⟨⟨a6, q6, rfl, hd6, _⟩, hc⟩
  have D6 := Kp.mk hd6; clear hd6
  have D5 := Kp.mk (D5.out.below hc)
  have hb6 := hb5.trans (hc.mono hb5.size); clear hc hb5
  go_wp2_with fail
  refine (cC.out _ _ _ D5.out D6.out).mono ?_
  rintro e w7 ⟨rfl, hc⟩
  have hb7 := hb6.trans (hc.mono hb6.size); clear hc hb6 D5 D6
  have f3 := f3.out
  have f1 := f1.out
  have f2 := f2.out
  have f5 := f5.out
  go_wp2_with fail
  refine (HC.out _).mono ?_
  rintro e w' ⟨rfl, rfl⟩
  go_wp2_with fail
  refine (lives_any _ (HW.out.below hb7)).mono ?_
  rintro e w8 ⟨rfl, hc⟩
  have hb8 := hb7.trans (hc.mono hb7.size); clear hc hb7
  go_wp2_with fail
  go_ret
  exact ⟨rfl, hb8⟩
set_option maxRecDepth 100000 in
set_option maxHeartbeats 2000000 in
theorem divs_pynl (a b c q m p : Int) (w : World) (hw : Laid w) (fa : fits a) (fb : fits b) (fq : fits q) (fm : fits m) (hv : q * b + m = a)
    (hD : Gives 19 a b q 0) (hM : Gives 20 a b m 0) (hC : Gives 19 c b p 0)
    (p1 : 0 < b) (p3 : m < b) (hm0 : 0 < m) (hla : (a == -9223372036854775808) = true) (hlb : (b == -1) = false) (o1 : a < c) (o2 : q ≤ p) :
    Calls Tryd.prog 4 #[.int .i64 a, .int .i64 b, .int .i64 c] w fun e w' => e = .returned (.bool true) ∧ Below w.heap.size w w' := by
  have HW := Kp.mk hw; clear hw
  have HD := Kp.mk hD; clear hD
  have HM := Kp.mk hM; clear hM
  have HC := Kp.mk hC; clear hC
  have lq := len64 fq
  have lb := len64 fb
  have lm := len64 fm
  have la := len64 fa
  have l3 := len_mul fq fb
  have cM := fun (va vb : Value) (w1 : World) (h1 : Digs w1 va (dg q.natAbs)) (h2 : Digs w1 vb (dg b.natAbs)) => mul_any q b va vb w1 h1 h2 lq lb
  have cA := fun (va vb : Value) (w1 : World) (h1 : Digs w1 va (dg (q * b).natAbs)) (h2 : Digs w1 vb (dg m.natAbs)) => ref_add (q * b) m va vb w1 h1 h2 l3 lm
  have cC := fun (va vb : Value) (w1 : World) (h1 : Digs w1 va (dg a.natAbs)) (h2 : Digs w1 vb (dg a.natAbs)) => ref_cmp a a va vb w1 h1 h2 la la
  rw [show cmpI a a = 0 by unfold cmpI; rw [if_neg (by omega), if_neg (by omega)]] at cC
  clear lq lb lm la l3
  generalize q * b = x3 at *
  rw [hv] at cA
  have cM := Kp.mk cM
  have cA := Kp.mk cA
  have cC := Kp.mk cC
  have oq := Kp.mk (fun w1 => of_any q w1 fq.1 fq.2)
  have ob := Kp.mk (fun w1 => of_any b w1 fb.1 fb.2)
  have om := Kp.mk (fun w1 => of_any m w1 fm.1 fm.2)
  have oa := Kp.mk (fun w1 => of_any a w1 fa.1 fa.2)
  have hb0 : (b == 0) = false := beq_eq_false_iff_ne.2 (by omega)
  clear fa fb fq fm hv
  have e1 : decide (m < 0) = false := decide_eq_false (by omega)
  have e2 : decide (b < 0) = false := decide_eq_false (by omega)
  have e3 : decide (0 < b) = true := decide_eq_true (by omega)
  have e0 : (m != 0) = true := by simp; omega
  have e4 : decide (b ≤ m) = false := decide_eq_false (by omega)
  have f3 := Kp.mk (show decide (0 < b) = true from decide_eq_true (by omega))
  have f1 := Kp.mk (show decide (a ≤ c) = true from decide_eq_true (by omega))
  have f2 := Kp.mk (show decide (c ≤ a) = false from decide_eq_false (by omega))
  have f4 := Kp.mk (show decide (p < q) = false from decide_eq_false (by omega))
  clear p1 p3 hm0 o1 o2
  go_enter Tryd.func4, Tryd.ntmps4
  go_wp2_with fail
  refine (HD.out _).mono ?_
  rintro e w' ⟨rfl, rfl⟩
  go_wp2_with fail
  refine (HM.out _).mono ?_
  rintro e w' ⟨rfl, rfl⟩
  go_upto_region 7 with fail
  clear hla hb0 hlb
  go_upto_region 9 with fail
  clear e1 e2 e3 e0 e4
  go_wp2_with fail
  refine (oq.out _).mono ?_
  rintro e w1 ⟨⟨a1, q1, rfl, hd1, _⟩, hb1⟩
  have D1 := Kp.mk hd1; clear hd1
  go_wp2_with fail
  refine (ob.out _).mono ?_
  rintro e w2 ⟨⟨a2, q2, rfl, hd2, _⟩, hc⟩
  have D2 := Kp.mk hd2; clear hd2
  have D1 := Kp.mk (D1.out.below hc)
  have hb2 := hb1.trans (hc.mono hb1.size); clear hc hb1
  go_wp2_with fail
  refine (cM.out _ _ _ D1.out D2.out).mono ?_
  rintro e w3 ⟨⟨a3, q3, rfl, hd3, _⟩, hc⟩
  have D3 := Kp.mk hd3; clear hd3 D1 D2
  have hb3 := hb2.trans (hc.mono hb2.size); clear hc hb2
  go_wp2_with fail
  refine (om.out _).mono ?_
  rintro e w4 ⟨⟨a4, q4, rfl, hd4, _⟩, hc⟩
  have D4 := Kp.mk hd4; clear hd4
  have D3 := Kp.mk (D3.out.below hc)
  have hb4 := hb3.trans (hc.mono hb3.size); clear hc hb3
  go_wp2_with fail
  refine (cA.out _ _ _ D3.out D4.out).mono ?_
  rintro e w5 ⟨⟨a5, q5, rfl, hd5, _⟩, hc⟩
  have D5 := Kp.mk hd5; clear hd5 D3 D4
  have hb5 := hb4.trans (hc.mono hb4.size); clear hc hb4
  go_wp2_with fail
  refine (oa.out _).mono ?_
  rintro e w6 ⟨⟨a6, q6, rfl, hd6, _⟩, hc⟩
  have D6 := Kp.mk hd6; clear hd6
  have D5 := Kp.mk (D5.out.below hc)
  have hb6 := hb5.trans (hc.mono hb5.size); clear hc hb5
  go_wp2_with fail
  refine (cC.out _ _ _ D5.out D6.out).mono ?_
  rintro e w7 ⟨rfl, hc⟩
  have hb7 := hb6.trans (hc.mono hb6.size); clear hc hb6 D5 D6
  have f3 := f3.out
  have f1 := f1.out
  have f2 := f2.out
  have f4 := f4.out
  go_wp2_with fail
  refine (HC.out _).mono ?_
  rintro e w' ⟨rfl, rfl⟩
  go_wp2_with fail
  refine (lives_any _ (HW.out.below hb7)).mono ?_
  rintro e w8 ⟨rfl, hc⟩
  have hb8 := hb7.trans (hc.mono hb7.size); clear hc hb7
  go_wp2_with fail
  go_ret
  exact ⟨rfl, hb8⟩
set_option maxRecDepth 100000 in
set_option maxHeartbeats 2000000 in
theorem divs_pyne (a b c q m p : Int) (w : World) (hw : Laid w) (fa : fits a) (fb : fits b) (fq : fits q) (fm : fits m) (hv : q * b + m = a)
    (hD : Gives 19 a b q 0) (hM : Gives 20 a b m 0) (hC : Gives 19 c b p 0)
    (p1 : 0 < b) (p3 : m < b) (hm0 : 0 < m) (hla : (a == -9223372036854775808) = true) (hlb : (b == -1) = false) (o1 : a = c) (o2 : q = p) :
    Calls Tryd.prog 4 #[.int .i64 a, .int .i64 b, .int .i64 c] w fun e w' => e = .returned (.bool true) ∧ Below w.heap.size w w' := by
  have HW := Kp.mk hw; clear hw
  have HD := Kp.mk hD; clear hD
  have HM := Kp.mk hM; clear hM
  have HC := Kp.mk hC; clear hC
  have lq := len64 fq
  have lb := len64 fb
  have lm := len64 fm
  have la := len64 fa
  have l3 := len_mul fq fb
  have cM := fun (va vb : Value) (w1 : World) (h1 : Digs w1 va (dg q.natAbs)) (h2 : Digs w1 vb (dg b.natAbs)) => mul_any q b va vb w1 h1 h2 lq lb
  have cA := fun (va vb : Value) (w1 : World) (h1 : Digs w1 va (dg (q * b).natAbs)) (h2 : Digs w1 vb (dg m.natAbs)) => ref_add (q * b) m va vb w1 h1 h2 l3 lm
  have cC := fun (va vb : Value) (w1 : World) (h1 : Digs w1 va (dg a.natAbs)) (h2 : Digs w1 vb (dg a.natAbs)) => ref_cmp a a va vb w1 h1 h2 la la
  rw [show cmpI a a = 0 by unfold cmpI; rw [if_neg (by omega), if_neg (by omega)]] at cC
  clear lq lb lm la l3
  generalize q * b = x3 at *
  rw [hv] at cA
  have cM := Kp.mk cM
  have cA := Kp.mk cA
  have cC := Kp.mk cC
  have oq := Kp.mk (fun w1 => of_any q w1 fq.1 fq.2)
  have ob := Kp.mk (fun w1 => of_any b w1 fb.1 fb.2)
  have om := Kp.mk (fun w1 => of_any m w1 fm.1 fm.2)
  have oa := Kp.mk (fun w1 => of_any a w1 fa.1 fa.2)
  have hb0 : (b == 0) = false := beq_eq_false_iff_ne.2 (by omega)
  clear fa fb fq fm hv
  have e1 : decide (m < 0) = false := decide_eq_false (by omega)
  have e2 : decide (b < 0) = false := decide_eq_false (by omega)
  have e3 : decide (0 < b) = true := decide_eq_true (by omega)
  have e0 : (m != 0) = true := by simp; omega
  have e4 : decide (b ≤ m) = false := decide_eq_false (by omega)
  have f3 := Kp.mk (show decide (0 < b) = true from decide_eq_true (by omega))
  have f1 := Kp.mk (show decide (a ≤ c) = true from decide_eq_true (by omega))
  have f2 := Kp.mk (show decide (c ≤ a) = true from decide_eq_true (by omega))
  have f4 := Kp.mk (show decide (p < q) = false from decide_eq_false (by omega))
  have f5 := Kp.mk (show decide (q < p) = false from decide_eq_false (by omega))
  clear p1 p3 hm0 o1 o2
  go_enter Tryd.func4, Tryd.ntmps4
  go_wp2_with fail
  refine (HD.out _).mono ?_
  rintro e w' ⟨rfl, rfl⟩
  go_wp2_with fail
  refine (HM.out _).mono ?_
  rintro e w' ⟨rfl, rfl⟩
  go_upto_region 7 with fail
  clear hla hb0 hlb
  go_upto_region 9 with fail
  clear e1 e2 e3 e0 e4
  go_wp2_with fail
  refine (oq.out _).mono ?_
  rintro e w1 ⟨⟨a1, q1, rfl, hd1, _⟩, hb1⟩
  have D1 := Kp.mk hd1; clear hd1
  go_wp2_with fail
  refine (ob.out _).mono ?_
  rintro e w2 ⟨⟨a2, q2, rfl, hd2, _⟩, hc⟩
  have D2 := Kp.mk hd2; clear hd2
  have D1 := Kp.mk (D1.out.below hc)
  have hb2 := hb1.trans (hc.mono hb1.size); clear hc hb1
  go_wp2_with fail
  refine (cM.out _ _ _ D1.out D2.out).mono ?_
  rintro e w3 ⟨⟨a3, q3, rfl, hd3, _⟩, hc⟩
  have D3 := Kp.mk hd3; clear hd3 D1 D2
  have hb3 := hb2.trans (hc.mono hb2.size); clear hc hb2
  go_wp2_with fail
  refine (om.out _).mono ?_
  rintro e w4 ⟨⟨a4, q4, rfl, hd4, _⟩, hc⟩
  have D4 := Kp.mk hd4; clear hd4
  have D3 := Kp.mk (D3.out.below hc)
  have hb4 := hb3.trans (hc.mono hb3.size); clear hc hb3
  go_wp2_with fail
  refine (cA.out _ _ _ D3.out D4.out).mono ?_
  rintro e w5 ⟨⟨a5, q5, rfl, hd5, _⟩, hc⟩
  have D5 := Kp.mk hd5; clear hd5 D3 D4
  have hb5 := hb4.trans (hc.mono hb4.size); clear hc hb4
  go_wp2_with fail
  refine (oa.out _).mono ?_
  rintro e w6 ⟨⟨a6, q6, rfl, hd6, _⟩, hc⟩
  have D6 := Kp.mk hd6; clear hd6
  have D5 := Kp.mk (D5.out.below hc)
  have hb6 := hb5.trans (hc.mono hb5.size); clear hc hb5
  go_wp2_with fail
  refine (cC.out _ _ _ D5.out D6.out).mono ?_
  rintro e w7 ⟨rfl, hc⟩
  have hb7 := hb6.trans (hc.mono hb6.size); clear hc hb6 D5 D6
  have f3 := f3.out
  have f1 := f1.out
  have f2 := f2.out
  have f4 := f4.out
  have f5 := f5.out
  go_wp2_with fail
  refine (HC.out _).mono ?_
  rintro e w' ⟨rfl, rfl⟩
  go_wp2_with fail
  refine (lives_any _ (HW.out.below hb7)).mono ?_
  rintro e w8 ⟨rfl, hc⟩
  have hb8 := hb7.trans (hc.mono hb7.size); clear hc hb7
  go_wp2_with fail
  go_ret
  exact ⟨rfl, hb8⟩
set_option maxRecDepth 100000 in
set_option maxHeartbeats 2000000 in
theorem divs_pyng (a b c q m p : Int) (w : World) (hw : Laid w) (fa : fits a) (fb : fits b) (fq : fits q) (fm : fits m) (hv : q * b + m = a)
    (hD : Gives 19 a b q 0) (hM : Gives 20 a b m 0) (hC : Gives 19 c b p 0)
    (p1 : 0 < b) (p3 : m < b) (hm0 : 0 < m) (hla : (a == -9223372036854775808) = true) (hlb : (b == -1) = false) (o1 : c < a) (o2 : p ≤ q) :
    Calls Tryd.prog 4 #[.int .i64 a, .int .i64 b, .int .i64 c] w fun e w' => e = .returned (.bool true) ∧ Below w.heap.size w w' := by
  have HW := Kp.mk hw; clear hw
  have HD := Kp.mk hD; clear hD
  have HM := Kp.mk hM; clear hM
  have HC := Kp.mk hC; clear hC
  have lq := len64 fq
  have lb := len64 fb
  have lm := len64 fm
  have la := len64 fa
  have l3 := len_mul fq fb
  have cM := fun (va vb : Value) (w1 : World) (h1 : Digs w1 va (dg q.natAbs)) (h2 : Digs w1 vb (dg b.natAbs)) => mul_any q b va vb w1 h1 h2 lq lb
  have cA := fun (va vb : Value) (w1 : World) (h1 : Digs w1 va (dg (q * b).natAbs)) (h2 : Digs w1 vb (dg m.natAbs)) => ref_add (q * b) m va vb w1 h1 h2 l3 lm
  have cC := fun (va vb : Value) (w1 : World) (h1 : Digs w1 va (dg a.natAbs)) (h2 : Digs w1 vb (dg a.natAbs)) => ref_cmp a a va vb w1 h1 h2 la la
  rw [show cmpI a a = 0 by unfold cmpI; rw [if_neg (by omega), if_neg (by omega)]] at cC
  clear lq lb lm la l3
  generalize q * b = x3 at *
  rw [hv] at cA
  have cM := Kp.mk cM
  have cA := Kp.mk cA
  have cC := Kp.mk cC
  have oq := Kp.mk (fun w1 => of_any q w1 fq.1 fq.2)
  have ob := Kp.mk (fun w1 => of_any b w1 fb.1 fb.2)
  have om := Kp.mk (fun w1 => of_any m w1 fm.1 fm.2)
  have oa := Kp.mk (fun w1 => of_any a w1 fa.1 fa.2)
  have hb0 : (b == 0) = false := beq_eq_false_iff_ne.2 (by omega)
  clear fa fb fq fm hv
  have e1 : decide (m < 0) = false := decide_eq_false (by omega)
  have e2 : decide (b < 0) = false := decide_eq_false (by omega)
  have e3 : decide (0 < b) = true := decide_eq_true (by omega)
  have e0 : (m != 0) = true := by simp; omega
  have e4 : decide (b ≤ m) = false := decide_eq_false (by omega)
  have f3 := Kp.mk (show decide (0 < b) = true from decide_eq_true (by omega))
  have f1 := Kp.mk (show decide (a ≤ c) = false from decide_eq_false (by omega))
  have f2 := Kp.mk (show decide (c ≤ a) = true from decide_eq_true (by omega))
  have f5 := Kp.mk (show decide (q < p) = false from decide_eq_false (by omega))
  clear p1 p3 hm0 o1 o2
  go_enter Tryd.func4, Tryd.ntmps4
  go_wp2_with fail
  refine (HD.out _).mono ?_
  rintro e w' ⟨rfl, rfl⟩
  go_wp2_with fail
  refine (HM.out _).mono ?_
  rintro e w' ⟨rfl, rfl⟩
  go_upto_region 7 with fail
  clear hla hb0 hlb
  go_upto_region 9 with fail
  clear e1 e2 e3 e0 e4
  go_wp2_with fail
  refine (oq.out _).mono ?_
  rintro e w1 ⟨⟨a1, q1, rfl, hd1, _⟩, hb1⟩
  have D1 := Kp.mk hd1; clear hd1
  go_wp2_with fail
  refine (ob.out _).mono ?_
  rintro e w2 ⟨⟨a2, q2, rfl, hd2, _⟩, hc⟩
  have D2 := Kp.mk hd2; clear hd2
  have D1 := Kp.mk (D1.out.below hc)
  have hb2 := hb1.trans (hc.mono hb1.size); clear hc hb1
  go_wp2_with fail
  refine (cM.out _ _ _ D1.out D2.out).mono ?_
  rintro e w3 ⟨⟨a3, q3, rfl, hd3, _⟩, hc⟩
  have D3 := Kp.mk hd3; clear hd3 D1 D2
  have hb3 := hb2.trans (hc.mono hb2.size); clear hc hb2
  go_wp2_with fail
  refine (om.out _).mono ?_
  rintro e w4 ⟨⟨a4, q4, rfl, hd4, _⟩, hc⟩
  have D4 := Kp.mk hd4; clear hd4
  have D3 := Kp.mk (D3.out.below hc)
  have hb4 := hb3.trans (hc.mono hb3.size); clear hc hb3
  go_wp2_with fail
  refine (cA.out _ _ _ D3.out D4.out).mono ?_
  rintro e w5 ⟨⟨a5, q5, rfl, hd5, _⟩, hc⟩
  have D5 := Kp.mk hd5; clear hd5 D3 D4
  have hb5 := hb4.trans (hc.mono hb4.size); clear hc hb4
  go_wp2_with fail
  refine (oa.out _).mono ?_
  rintro e w6 ⟨⟨a6, q6, rfl, hd6, _⟩, hc⟩
  have D6 := Kp.mk hd6; clear hd6
  have D5 := Kp.mk (D5.out.below hc)
  have hb6 := hb5.trans (hc.mono hb5.size); clear hc hb5
  go_wp2_with fail
  refine (cC.out _ _ _ D5.out D6.out).mono ?_
  rintro e w7 ⟨rfl, hc⟩
  have hb7 := hb6.trans (hc.mono hb6.size); clear hc hb6 D5 D6
  have f3 := f3.out
  have f1 := f1.out
  have f2 := f2.out
  have f5 := f5.out
  go_wp2_with fail
  refine (HC.out _).mono ?_
  rintro e w' ⟨rfl, rfl⟩
  go_wp2_with fail
  refine (lives_any _ (HW.out.below hb7)).mono ?_
  rintro e w8 ⟨rfl, hc⟩
  have hb8 := hb7.trans (hc.mono hb7.size); clear hc hb7
  go_wp2_with fail
  go_ret
  exact ⟨rfl, hb8⟩
set_option maxRecDepth 100000 in
set_option maxHeartbeats 2000000 in
theorem divs_nnz (a b c q m p g : Int) (w : World) (hw : Laid w) (fa : fits a) (fb : fits b) (fq : fits q) (fm : fits m) (hv : q * b + m = a)
    (hD : Gives 19 a b q 0) (hM : Gives 20 a b m 0) (hC : Gives 19 c b p g)
    (p1 : b < 0) (p3 : b < m) (hm0 : m = 0) (hla : (a == -9223372036854775808) = false) :
    Calls Tryd.prog 4 #[.int .i64 a, .int .i64 b, .int .i64 c] w fun e w' => e = .returned (.bool true) ∧ Below w.heap.size w w' := by
  have HW := Kp.mk hw; clear hw
  have HD := Kp.mk hD; clear hD
  have HM := Kp.mk hM; clear hM
  have HC := Kp.mk hC; clear hC
  have lq := len64 fq
  have lb := len64 fb
  have lm := len64 fm
  have la := len64 fa
  have l3 := len_mul fq fb
  have cM := fun (va vb : Value) (w1 : World) (h1 : Digs w1 va (dg q.natAbs)) (h2 : Digs w1 vb (dg b.natAbs)) => mul_any q b va vb w1 h1 h2 lq lb
  have cA := fun (va vb : Value) (w1 : World) (h1 : Digs w1 va (dg (q * b).natAbs)) (h2 : Digs w1 vb (dg m.natAbs)) => ref_add (q * b) m va vb w1 h1 h2 l3 lm
  have cC := fun (va vb : Value) (w1 : World) (h1 : Digs w1 va (dg a.natAbs)) (h2 : Digs w1 vb (dg a.natAbs)) => ref_cmp a a va vb w1 h1 h2 la la
  rw [show cmpI a a = 0 by unfold cmpI; rw [if_neg (by omega), if_neg (by omega)]] at cC
  clear lq lb lm la l3
  generalize q * b = x3 at *
  rw [hv] at cA
  have cM := Kp.mk cM
  have cA := Kp.mk cA
  have cC := Kp.mk cC
  have oq := Kp.mk (fun w1 => of_any q w1 fq.1 fq.2)
  have ob := Kp.mk (fun w1 => of_any b w1 fb.1 fb.2)
  have om := Kp.mk (fun w1 => of_any m w1 fm.1 fm.2)
  have oa := Kp.mk (fun w1 => of_any a w1 fa.1 fa.2)
  have hb0 : (b == 0) = false := beq_eq_false_iff_ne.2 (by omega)
  clear fa fb fq fm hv
  have e1 : decide (m < 0) = false := decide_eq_false (by omega)
  have e2 : decide (b < 0) = true := decide_eq_true (by omega)
  have e3 : decide (0 < b) = false := decide_eq_false (by omega)
  have e0 : (m != 0) = false := by simp; omega
  have e4 : decide (m ≤ b) = false := decide_eq_false (by omega)
  have f3 := Kp.mk (show decide (0 < b) = false from decide_eq_false (by omega))
  clear p1 p3 hm0
  go_enter Tryd.func4, Tryd.ntmps4
  go_wp2_with fail
  refine (HD.out _).mono ?_
  rintro e w' ⟨rfl, rfl⟩
  go_wp2_with fail
  refine (HM.out _).mono ?_
  rintro e w' ⟨rfl, rfl⟩
  go_upto_region 7 with fail
  clear hla hb0
  go_upto_region 9 with fail
  clear e1 e2 e3 e0 e4
  go_wp2_with fail
  refine (oq.out _).mono ?_
  rintro e w1 ⟨⟨a1, q1, rfl, hd1, _⟩, hb1⟩
  have D1 := Kp.mk hd1; clear hd1
  go_wp2_with fail
  refine (ob.out _).mono ?_
  rintro e w2 ⟨⟨a2, q2, rfl, hd2, _⟩, hc⟩
  have D2 := Kp.mk hd2; clear hd2
  have D1 := Kp.mk (D1.out.below hc)
  have hb2 := hb1.trans (hc.mono hb1.size); clear hc hb1
  go_wp2_with fail
  refine (cM.out _ _ _ D1.out D2.out).mono ?_
  rintro e w3 ⟨⟨a3, q3, rfl, hd3, _⟩, hc⟩
  have D3 := Kp.mk hd3; clear hd3 D1 D2
  have hb3 := hb2.trans (hc.mono hb2.size); clear hc hb2
  go_wp2_with fail
  refine (om.out _).mono ?_
  rintro e w4 ⟨⟨a4, q4, rfl, hd4, _⟩, hc⟩
  have D4 := Kp.mk hd4; clear hd4
  have D3 := Kp.mk (D3.out.below hc)
  have hb4 := hb3.trans (hc.mono hb3.size); clear hc hb3
  go_wp2_with fail
  refine (cA.out _ _ _ D3.out D4.out).mono ?_
  rintro e w5 ⟨⟨a5, q5, rfl, hd5, _⟩, hc⟩
  have D5 := Kp.mk hd5; clear hd5 D3 D4
  have hb5 := hb4.trans (hc.mono hb4.size); clear hc hb4
  go_wp2_with fail
  refine (oa.out _).mono ?_
  rintro e w6 ⟨⟨a6, q6, rfl, hd6, _⟩, hc⟩
  have D6 := Kp.mk hd6; clear hd6
  have D5 := Kp.mk (D5.out.below hc)
  have hb6 := hb5.trans (hc.mono hb5.size); clear hc hb5
  go_wp2_with fail
  refine (cC.out _ _ _ D5.out D6.out).mono ?_
  rintro e w7 ⟨rfl, hc⟩
  have hb7 := hb6.trans (hc.mono hb6.size); clear hc hb6 D5 D6
  have f3 := f3.out
  go_wp2_with fail
  refine (HC.out _).mono ?_
  rintro e w' ⟨rfl, rfl⟩
  go_wp2_with fail
  refine (lives_any _ (HW.out.below hb7)).mono ?_
  rintro e w8 ⟨rfl, hc⟩
  have hb8 := hb7.trans (hc.mono hb7.size); clear hc hb7
  go_wp2_with fail
  go_ret
  exact ⟨rfl, hb8⟩
set_option maxRecDepth 100000 in
set_option maxHeartbeats 2000000 in
theorem divs_nnn (a b c q m p g : Int) (w : World) (hw : Laid w) (fa : fits a) (fb : fits b) (fq : fits q) (fm : fits m) (hv : q * b + m = a)
    (hD : Gives 19 a b q 0) (hM : Gives 20 a b m 0) (hC : Gives 19 c b p g)
    (p1 : b < 0) (p3 : b < m) (hm0 : m < 0) (hla : (a == -9223372036854775808) = false) :
    Calls Tryd.prog 4 #[.int .i64 a, .int .i64 b, .int .i64 c] w fun e w' => e = .returned (.bool true) ∧ Below w.heap.size w w' := by
  have HW := Kp.mk hw; clear hw
  have HD := Kp.mk hD; clear hD
  have HM := Kp.mk hM; clear hM
  have HC := Kp.mk hC; clear hC
  have lq := len64 fq
  have lb := len64 fb
  have lm := len64 fm
  have la := len64 fa
  have l3 := len_mul fq fb
  have cM := fun (va vb : Value) (w1 : World) (h1 : Digs w1 va (dg q.natAbs)) (h2 : Digs w1 vb (dg b.natAbs)) => mul_any q b va vb w1 h1 h2 lq lb
  have cA := fun (va vb : Value) (w1 : World) (h1 : Digs w1 va (dg (q * b).natAbs)) (h2 : Digs w1 vb (dg m.natAbs)) => ref_add (q * b) m va vb w1 h1 h2 l3 lm
  have cC := fun (va vb : Value) (w1 : World) (h1 : Digs w1 va (dg a.natAbs)) (h2 : Digs w1 vb (dg a.natAbs)) => ref_cmp a a va vb w1 h1 h2 la la
  rw [show cmpI a a = 0 by unfold cmpI; rw [if_neg (by omega), if_neg (by omega)]] at cC
  clear lq lb lm la l3
  generalize q * b = x3 at *
  rw [hv] at cA
  have cM := Kp.mk cM
  have cA := Kp.mk cA
  have cC := Kp.mk cC
  have oq := Kp.mk (fun w1 => of_any q w1 fq.1 fq.2)
  have ob := Kp.mk (fun w1 => of_any b w1 fb.1 fb.2)
  have om := Kp.mk (fun w1 => of_any m w1 fm.1 fm.2)
  have oa := Kp.mk (fun w1 => of_any a w1 fa.1 fa.2)
  have hb0 : (b == 0) = false := beq_eq_false_iff_ne.2 (by omega)
  clear fa fb fq fm hv
  have e1 : decide (m < 0) = true := decide_eq_true (by omega)
  have e2 : decide (b < 0) = true := decide_eq_true (by omega)
  have e3 : decide (0 < b) = false := decide_eq_false (by omega)
  have e0 : (m != 0) = true := by simp; omega
  have e4 : decide (m ≤ b) = false := decide_eq_false (by omega)
  have f3 := Kp.mk (show decide (0 < b) = false from decide_eq_false (by omega))
  clear p1 p3 hm0
  go_enter Tryd.func4, Tryd.ntmps4
  go_wp2_with fail
  refine (HD.out _).mono ?_
  rintro e w' ⟨rfl, rfl⟩
  go_wp2_with fail
  refine (HM.out _).mono ?_
  rintro e w' ⟨rfl, rfl⟩
  go_upto_region 7 with fail
  clear hla hb0
  go_upto_region 9 with fail
  clear e1 e2 e3 e0 e4
  go_wp2_with fail
  refine (oq.out _).mono ?_
  rintro e w1 ⟨⟨a1, q1, rfl, hd1, _⟩, hb1⟩
  have D1 := Kp.mk hd1; clear hd1
  go_wp2_with fail
  refine (ob.out _).mono ?_
  rintro e w2 ⟨⟨a2, q2, rfl, hd2, _⟩, hc⟩
  have D2 := Kp.mk hd2; clear hd2
  have D1 := Kp.mk (D1.out.below hc)
  have hb2 := hb1.trans (hc.mono hb1.size); clear hc hb1
  go_wp2_with fail
  refine (cM.out _ _ _ D1.out D2.out).mono ?_
  rintro e w3 ⟨⟨a3, q3, rfl, hd3, _⟩, hc⟩
  have D3 := Kp.mk hd3; clear hd3 D1 D2
  have hb3 := hb2.trans (hc.mono hb2.size); clear hc hb2
  go_wp2_with fail
  refine (om.out _).mono ?_
  rintro e w4 ⟨⟨a4, q4, rfl, hd4, _⟩, hc⟩
  have D4 := Kp.mk hd4; clear hd4
  have D3 := Kp.mk (D3.out.below hc)
  have hb4 := hb3.trans (hc.mono hb3.size); clear hc hb3
  go_wp2_with fail
  refine (cA.out _ _ _ D3.out D4.out).mono ?_
  rintro e w5 ⟨⟨a5, q5, rfl, hd5, _⟩, hc⟩
  have D5 := Kp.mk hd5; clear hd5 D3 D4
  have hb5 := hb4.trans (hc.mono hb4.size); clear hc hb4
  go_wp2_with fail
  refine (oa.out _).mono ?_
  rintro e w6 ⟨⟨a6, q6, rfl, hd6, _⟩, hc⟩
  have D6 := Kp.mk hd6; clear hd6
  have D5 := Kp.mk (D5.out.below hc)
  have hb6 := hb5.trans (hc.mono hb5.size); clear hc hb5
  go_wp2_with fail
  refine (cC.out _ _ _ D5.out D6.out).mono ?_
  rintro e w7 ⟨rfl, hc⟩
  have hb7 := hb6.trans (hc.mono hb6.size); clear hc hb6 D5 D6
  have f3 := f3.out
  go_wp2_with fail
  refine (HC.out _).mono ?_
  rintro e w' ⟨rfl, rfl⟩
  go_wp2_with fail
  refine (lives_any _ (HW.out.below hb7)).mono ?_
  rintro e w8 ⟨rfl, hc⟩
  have hb8 := hb7.trans (hc.mono hb7.size); clear hc hb7
  go_wp2_with fail
  go_ret
  exact ⟨rfl, hb8⟩
set_option maxRecDepth 100000 in
set_option maxHeartbeats 2000000 in
theorem divs_nyz (a b c q m p g : Int) (w : World) (hw : Laid w) (fa : fits a) (fb : fits b) (fq : fits q) (fm : fits m) (hv : q * b + m = a)
    (hD : Gives 19 a b q 0) (hM : Gives 20 a b m 0) (hC : Gives 19 c b p g)
    (p1 : b < 0) (p3 : b < m) (hm0 : m = 0) (hla : (a == -9223372036854775808) = true) (hlb : (b == -1) = false) :
    Calls Tryd.prog 4 #[.int .i64 a, .int .i64 b, .int .i64 c] w fun e w' => e = .returned (.bool true) ∧ Below w.heap.size w w' := by
  have HW := Kp.mk hw; clear hw
  have HD := Kp.mk hD; clear hD
  have HM := Kp.mk hM; clear hM
  have HC := Kp.mk hC; clear hC
  have lq := len64 fq
  have lb := len64 fb
  have lm := len64 fm
  have la := len64 fa
  have l3 := len_mul fq fb
  have cM := fun (va vb : Value) (w1 : World) (h1 : Digs w1 va (dg q.natAbs)) (h2 : Digs w1 vb (dg b.natAbs)) => mul_any q b va vb w1 h1 h2 lq lb
  have cA := fun (va vb : Value) (w1 : World) (h1 : Digs w1 va (dg (q * b).natAbs)) (h2 : Digs w1 vb (dg m.natAbs)) => ref_add (q * b) m va vb w1 h1 h2 l3 lm
  have cC := fun (va vb : Value) (w1 : World) (h1 : Digs w1 va (dg a.natAbs)) (h2 : Digs w1 vb (dg a.natAbs)) => ref_cmp a a va vb w1 h1 h2 la la
  rw [show cmpI a a = 0 by unfold cmpI; rw [if_neg (by omega), if_neg (by omega)]] at cC
  clear lq lb lm la l3
  generalize q * b = x3 at *
  rw [hv] at cA
  have cM := Kp.mk cM
  have cA := Kp.mk cA
  have cC := Kp.mk cC
  have oq := Kp.mk (fun w1 => of_any q w1 fq.1 fq.2)
  have ob := Kp.mk (fun w1 => of_any b w1 fb.1 fb.2)
  have om := Kp.mk (fun w1 => of_any m w1 fm.1 fm.2)
  have oa := Kp.mk (fun w1 => of_any a w1 fa.1 fa.2)
  have hb0 : (b == 0) = false := beq_eq_false_iff_ne.2 (by omega)
  clear fa fb fq fm hv
  have e1 : decide (m < 0) = false := decide_eq_false (by omega)
  have e2 : decide (b < 0) = true := decide_eq_true (by omega)
  have e3 : decide (0 < b) = false := decide_eq_false (by omega)
  have e0 : (m != 0) = false := by simp; omega
  have e4 : decide (m ≤ b) = false := decide_eq_false (by omega)
  have f3 := Kp.mk (show decide (0 < b) = false from decide_eq_false (by omega))
  clear p1 p3 hm0
  go_enter Tryd.func4, Tryd.ntmps4
  go_wp2_with fail
  refine (HD.out _).mono ?_
  rintro e w' ⟨rfl, rfl⟩
  go_wp2_with fail
  refine (HM.out _).mono ?_
  rintro e w' ⟨rfl, rfl⟩
  go_upto_region 7 with fail
  clear hla hb0 hlb
  go_upto_region 9 with fail
  clear e1 e2 e3 e0 e4
  go_wp2_with fail
  refine (oq.out _).mono ?_
  rintro e w1 ⟨⟨a1, q1, rfl, hd1, _⟩, hb1⟩
  have D1 := Kp.mk hd1; clear hd1
  go_wp2_with fail
  refine (ob.out _).mono ?_
  rintro e w2 ⟨⟨a2, q2, rfl, hd2, _⟩, hc⟩
  have D2 := Kp.mk hd2; clear hd2
  have D1 := Kp.mk (D1.out.below hc)
  have hb2 := hb1.trans (hc.mono hb1.size); clear hc hb1
  go_wp2_with fail
  refine (cM.out _ _ _ D1.out D2.out).mono ?_
  rintro e w3 ⟨⟨a3, q3, rfl, hd3, _⟩, hc⟩
  have D3 := Kp.mk hd3; clear hd3 D1 D2
  have hb3 := hb2.trans (hc.mono hb2.size); clear hc hb2
  go_wp2_with fail
  refine (om.out _).mono ?_
  rintro e w4 ⟨⟨a4, q4, rfl, hd4, _⟩, hc⟩
  have D4 := Kp.mk hd4; clear hd4
  have D3 := Kp.mk (D3.out.below hc)
  have hb4 := hb3.trans (hc.mono hb3.size); clear hc hb3
  go_wp2_with fail
  refine (cA.out _ _ _ D3.out D4.out).mono ?_
  rintro e w5 ⟨⟨a5, q5, rfl, hd5, _⟩, hc⟩
  have D5 := Kp.mk hd5; clear hd5 D3 D4
  have hb5 := hb4.trans (hc.mono hb4.size); clear hc hb4
  go_wp2_with fail
  refine (oa.out _).mono ?_
  rintro e w6 ⟨⟨a6, q6, rfl, hd6, _⟩, hc⟩
  have D6 := Kp.mk hd6; clear hd6
  have D5 := Kp.mk (D5.out.below hc)
  have hb6 := hb5.trans (hc.mono hb5.size); clear hc hb5
  go_wp2_with fail
  refine (cC.out _ _ _ D5.out D6.out).mono ?_
  rintro e w7 ⟨rfl, hc⟩
  have hb7 := hb6.trans (hc.mono hb6.size); clear hc hb6 D5 D6
  have f3 := f3.out
  go_wp2_with fail
  refine (HC.out _).mono ?_
  rintro e w' ⟨rfl, rfl⟩
  go_wp2_with fail
  refine (lives_any _ (HW.out.below hb7)).mono ?_
  rintro e w8 ⟨rfl, hc⟩
  have hb8 := hb7.trans (hc.mono hb7.size); clear hc hb7
  go_wp2_with fail
  go_ret
  exact ⟨rfl, hb8⟩
set_option maxRecDepth 100000 in
set_option maxHeartbeats 2000000 in
theorem divs_nyn (a b c q m p g : Int) (w : World) (hw : Laid w) (fa : fits a) (fb : fits b) (fq : fits q) (fm : fits m) (hv : q * b + m = a)
    (hD : Gives 19 a b q 0) (hM : Gives 20 a b m 0) (hC : Gives 19 c b p g)
    (p1 : b < 0) (p3 : b < m) (hm0 : m < 0) (hla : (a == -9223372036854775808) = true) (hlb : (b == -1) = false) :
    Calls Tryd.prog 4 #[.int .i64 a, .int .i64 b, .int .i64 c] w fun e w' => e = .returned (.bool true) ∧ Below w.heap.size w w' := by
  have HW := Kp.mk hw; clear hw
  have HD := Kp.mk hD; clear hD
  have HM := Kp.mk hM; clear hM
  have HC := Kp.mk hC; clear hC
  have lq := len64 fq
  have lb := len64 fb
  have lm := len64 fm
  have la := len64 fa
  have l3 := len_mul fq fb
  have cM := fun (va vb : Value) (w1 : World) (h1 : Digs w1 va (dg q.natAbs)) (h2 : Digs w1 vb (dg b.natAbs)) => mul_any q b va vb w1 h1 h2 lq lb
  have cA := fun (va vb : Value) (w1 : World) (h1 : Digs w1 va (dg (q * b).natAbs)) (h2 : Digs w1 vb (dg m.natAbs)) => ref_add (q * b) m va vb w1 h1 h2 l3 lm
  have cC := fun (va vb : Value) (w1 : World) (h1 : Digs w1 va (dg a.natAbs)) (h2 : Digs w1 vb (dg a.natAbs)) => ref_cmp a a va vb w1 h1 h2 la la
  rw [show cmpI a a = 0 by unfold cmpI; rw [if_neg (by omega), if_neg (by omega)]] at cC
  clear lq lb lm la l3
  generalize q * b = x3 at *
  rw [hv] at cA
  have cM := Kp.mk cM
  have cA := Kp.mk cA
  have cC := Kp.mk cC
  have oq := Kp.mk (fun w1 => of_any q w1 fq.1 fq.2)
  have ob := Kp.mk (fun w1 => of_any b w1 fb.1 fb.2)
  have om := Kp.mk (fun w1 => of_any m w1 fm.1 fm.2)
  have oa := Kp.mk (fun w1 => of_any a w1 fa.1 fa.2)
  have hb0 : (b == 0) = false := beq_eq_false_iff_ne.2 (by omega)
  clear fa fb fq fm hv
  have e1 : decide (m < 0) = true := decide_eq_true (by omega)
  have e2 : decide (b < 0) = true := decide_eq_true (by omega)
  have e3 : decide (0 < b) = false := decide_eq_false (by omega)
  have e0 : (m != 0) = true := by simp; omega
  have e4 : decide (m ≤ b) = false := decide_eq_false (by omega)
  have f3 := Kp.mk (show decide (0 < b) = false from decide_eq_false (by omega))
  clear p1 p3 hm0
  go_enter Tryd.func4, Tryd.ntmps4
  go_wp2_with fail
  refine (HD.out _).mono ?_
  rintro e w' ⟨rfl, rfl⟩
  go_wp2_with fail
  refine (HM.out _).mono ?_
  rintro e w' ⟨rfl, rfl⟩
  go_upto_region 7 with fail
  clear hla hb0 hlb
  go_upto_region 9 with fail
  clear e1 e2 e3 e0 e4
  go_wp2_with fail
  refine (oq.out _).mono ?_
  rintro e w1 ⟨⟨a1, q1, rfl, hd1, _⟩, hb1⟩
  have D1 := Kp.mk hd1; clear hd1
  go_wp2_with fail
  refine (ob.out _).mono ?_
  rintro e w2 ⟨⟨a2, q2, rfl, hd2, _⟩, hc⟩
  have D2 := Kp.mk hd2; clear hd2
  have D1 := Kp.mk (D1.out.below hc)
  have hb2 := hb1.trans (hc.mono hb1.size); clear hc hb1
  go_wp2_with fail
  refine (cM.out _ _ _ D1.out D2.out).mono ?_
  rintro e w3 ⟨⟨a3, q3, rfl, hd3, _⟩, hc⟩
  have D3 := Kp.mk hd3; clear hd3 D1 D2
  have hb3 := hb2.trans (hc.mono hb2.size); clear hc hb2
  go_wp2_with fail
  refine (om.out _).mono ?_
  rintro e w4 ⟨⟨a4, q4, rfl, hd4, _⟩, hc⟩
  have D4 := Kp.mk hd4; clear hd4
  have D3 := Kp.mk (D3.out.below hc)
  have hb4 := hb3.trans (hc.mono hb3.size); clear hc hb3
  go_wp2_with fail
  refine (cA.out _ _ _ D3.out D4.out).mono ?_
  rintro e w5 ⟨⟨a5, q5, rfl, hd5, _⟩, hc⟩
  have D5 := Kp.mk hd5; clear hd5 D3 D4
  have hb5 := hb4.trans (hc.mono hb4.size); clear hc hb4
  go_wp2_with fail
  refine (oa.out _).mono ?_
  rintro e w6 ⟨⟨a6, q6, rfl, hd6, _⟩, hc⟩
  have D6 := Kp.mk hd6; clear hd6
  have D5 := Kp.mk (D5.out.below hc)
  have hb6 := hb5.trans (hc.mono hb5.size); clear hc hb5
  go_wp2_with fail
  refine (cC.out _ _ _ D5.out D6.out).mono ?_
  rintro e w7 ⟨rfl, hc⟩
  have hb7 := hb6.trans (hc.mono hb6.size); clear hc hb6 D5 D6
  have f3 := f3.out
  go_wp2_with fail
  refine (HC.out _).mono ?_
  rintro e w' ⟨rfl, rfl⟩
  go_wp2_with fail
  refine (lives_any _ (HW.out.below hb7)).mono ?_
  rintro e w8 ⟨rfl, hc⟩
  have hb8 := hb7.trans (hc.mono hb7.size); clear hc hb7
  go_wp2_with fail
  go_ret
  exact ⟨rfl, hb8⟩
theorem divs_main (a b c q m p g : Int) (w : World) (hw : Laid w) (fa : fits a) (fb : fits b) (fq : fits q) (fm : fits m) (hv : q * b + m = a)
    (hD : Gives 19 a b q 0) (hM : Gives 20 a b m 0) (hC : Gives 19 c b p g)
    (hl : ¬ (a = -9223372036854775808 ∧ b = -1))
    (hcase : (0 < b ∧ 0 ≤ m ∧ m < b ∧ g = 0 ∧ (a ≤ c → q ≤ p) ∧ (c ≤ a → p ≤ q)) ∨ (b < 0 ∧ m ≤ 0 ∧ b < m)) :
    Calls Tryd.prog 4 #[.int .i64 a, .int .i64 b, .int .i64 c] w fun e w' => e = .returned (.bool true) ∧ Below w.heap.size w w' := by
  have hla : (a == -9223372036854775808) = false ∨ ((a == -9223372036854775808) = true ∧ (b == -1) = false) := by
    by_cases h : a = -9223372036854775808
    · exact .inr ⟨beq_iff_eq.2 h, beq_eq_false_iff_ne.2 (fun e => hl ⟨h, e⟩)⟩
    · exact .inl (beq_eq_false_iff_ne.2 h)
  rcases hcase with ⟨p1, p2, p3, rfl, p5, p6⟩ | ⟨p1, p2, p3⟩
  · have hord : (a < c ∧ q ≤ p) ∨ (a = c ∧ q = p) ∨ (c < a ∧ p ≤ q) := by
      by_cases h1 : a < c
      · exact .inl ⟨h1, p5 (by omega)⟩
      · by_cases h2 : a = c
        · have := p5 (by omega); have := p6 (by omega); exact .inr (.inl ⟨h2, by omega⟩)
        · exact .inr (.inr ⟨by omega, p6 (by omega)⟩)
    have hms : m = 0 ∨ 0 < m := by omega
    rcases hla with hla | ⟨hla, hlb⟩ <;> rcases hms with hm0 | hm0 <;> rcases hord with ⟨o1, o2⟩ | ⟨o1, o2⟩ | ⟨o1, o2⟩
    · exact divs_pnzl a b c q m p w hw fa fb fq fm hv hD hM hC p1 p3 hm0 hla o1 o2
    · exact divs_pnze a b c q m p w hw fa fb fq fm hv hD hM hC p1 p3 hm0 hla o1 o2
    · exact divs_pnzg a b c q m p w hw fa fb fq fm hv hD hM hC p1 p3 hm0 hla o1 o2
    · exact divs_pnnl a b c q m p w hw fa fb fq fm hv hD hM hC p1 p3 hm0 hla o1 o2
    · exact divs_pnne a b c q m p w hw fa fb fq fm hv hD hM hC p1 p3 hm0 hla o1 o2
    · exact divs_pnng a b c q m p w hw fa fb fq fm hv hD hM hC p1 p3 hm0 hla o1 o2
    · exact divs_pyzl a b c q m p w hw fa fb fq fm hv hD hM hC p1 p3 hm0 hla hlb o1 o2
    · exact divs_pyze a b c q m p w hw fa fb fq fm hv hD hM hC p1 p3 hm0 hla hlb o1 o2
    · exact divs_pyzg a b c q m p w hw fa fb fq fm hv hD hM hC p1 p3 hm0 hla hlb o1 o2
    · exact divs_pynl a b c q m p w hw fa fb fq fm hv hD hM hC p1 p3 hm0 hla hlb o1 o2
    · exact divs_pyne a b c q m p w hw fa fb fq fm hv hD hM hC p1 p3 hm0 hla hlb o1 o2
    · exact divs_pyng a b c q m p w hw fa fb fq fm hv hD hM hC p1 p3 hm0 hla hlb o1 o2
  · have hms : m = 0 ∨ m < 0 := by omega
    rcases hla with hla | ⟨hla, hlb⟩ <;> rcases hms with hm0 | hm0
    · exact divs_nnz a b c q m p g w hw fa fb fq fm hv hD hM hC p1 p3 hm0 hla
    · exact divs_nnn a b c q m p g w hw fa fb fq fm hv hD hM hC p1 p3 hm0 hla
    · exact divs_nyz a b c q m p g w hw fa fb fq fm hv hD hM hC p1 p3 hm0 hla hlb
    · exact divs_nyn a b c q m p g w hw fa fb fq fm hv hD hM hC p1 p3 hm0 hla hlb
theorem lawDivs_any (a b c : Int) (w : World) (hw : Laid w) (ha0 : -9223372036854775808 ≤ a) (ha1 : a ≤ 9223372036854775807) (hb0 : -9223372036854775808 ≤ b) (hb1 : b ≤ 9223372036854775807) (hc0 : -9223372036854775808 ≤ c) (hc1 : c ≤ 9223372036854775807) :
    Calls Tryd.prog 4 #[.int .i64 a, .int .i64 b, .int .i64 c] w fun e w' => e = .returned (.bool true) ∧ Below w.heap.size w w' := by
  by_cases h0 : b = 0
  · subst h0; exact divs_zero a c w hw
  · by_cases hl : a = -9223372036854775808 ∧ b = -1
    · obtain ⟨rfl, rfl⟩ := hl; exact divs_most c w hw
    · have fm : fits (fmd a b) := by
        rcases Int.lt_or_gt_of_ne h0 with h | h
        · have := fmd_neg a b h; exact ⟨by omega, by omega⟩
        · have := fmd_pos a b h; exact ⟨by omega, by omega⟩
      obtain ⟨p, g, hC, hp⟩ : ∃ p g, Gives 19 c b p g ∧ (0 < b → p = fdv c b ∧ g = 0) := by
        by_cases hz : c = -9223372036854775808 ∧ b = -1
        · obtain ⟨rfl, rfl⟩ := hz; exact ⟨0, 15, fun w1 => div_most w1, fun h => by omega⟩
        · exact ⟨_, 0, fun w1 => div_any c b w1 hc0 hc1 h0 hz, fun _ => ⟨rfl, rfl⟩⟩
      refine divs_main a b c (fdv a b) (fmd a b) p g w hw ⟨ha0, ha1⟩ ⟨hb0, hb1⟩ (fdv_bound a b ha0 ha1 hl) fm (fdv_fmd a b) (fun w1 => div_any a b w1 ha0 ha1 h0 hl) (fun w1 => mod_any a b w1 ha0 ha1 hb0 hb1 h0) hC hl ?_
      rcases Int.lt_or_gt_of_ne h0 with h | h
      · exact .inr ⟨h, fmd_neg a b h⟩
      · obtain ⟨rfl, rfl⟩ := hp h
        have := fmd_pos a b h
        exact .inl ⟨h, this.1, this.2, rfl, fun k => fdv_mono a c b h k, fun k => fdv_mono c a b h k⟩
end Go.Proofs.YtadnehnhgnfclaaDoor
