/-
  DERIVED. FACTS for the law FloatsWhole.
-/
import Derived.Test.YtadnehnhgnfclaaFlNan
namespace Go.Proofs.Ytadnehnhgnfclaa
open Go.RowKit

theorem big_whole {r : Nat} (h : 4503599627370496 * U ≤ V r) : V r % U = 0 := by
  by_cases h0 : V r % U = 0
  · exact h0
  · exfalso
    have hp : pl r < ex := Nat.lt_of_not_le fun c => h0 (by
      have e : V r = mg r * 2 ^ (pl r - ex) * U := by
        show mg r * 2 ^ pl r = _ * 2 ^ ex
        rw [Nat.mul_assoc, ← Nat.pow_add]; congr 2; omega
      rw [e]; exact Nat.mul_mod_left _ _)
    have a1 : V r < 9007199254740992 * 2 ^ pl r := Nat.mul_lt_mul_of_pos_right (mg_lt _) (Nat.two_pow_pos _)
    have a2 : 2 ^ (pl r + 1) ≤ U := Nat.pow_le_pow_right (by decide) (by omega)
    rw [Nat.pow_succ] at a2
    have a3 : 4503599627370496 * (2 ^ pl r * 2) ≤ 4503599627370496 * U := Nat.mul_le_mul_left _ a2
    omega
def negB (x : Nat) : Nat := dw (!isNeg x) (rung x)
theorem neg_run {x : Nat} (hx : x < 18446744073709551616) : Op.negFloat .f64 x = negB x := by
  have h := neg_dw (s := isNeg x) (r := rung x) (rung_lt x)
  have e : dw (isNeg x) (rung x) = x := by unfold dw; exact (split_bits hx).symm
  rw [e] at h
  exact h
theorem neg_rung (x : Nat) : rung (negB x) = rung x := dw_rung (rung_lt x)
theorem neg_neg' (x : Nat) : isNeg (negB x) = !isNeg x := dw_neg (rung_lt x)
theorem neg_nan (x : Nat) : isNan (negB x) = isNan x := by unfold isNan; rw [neg_rung]
theorem neg_sV (x : Nat) : sV (negB x) = -sV x := by
  unfold sV; rw [neg_rung, neg_neg']
  cases isNeg x <;> simp
theorem neg_64 (x : Nat) : negB x < 18446744073709551616 := by have := rung_lt x; unfold negB dw; split <;> omega
theorem int_gap {a b : Int} (h : a * U < b * U + U) : a ≤ b := Int.not_lt.1 fun c => by have := mulU_le (show b + 1 ≤ a by omega); rw [Int.add_mul] at this; omega
/-- how the ceiling comes out -/
inductive CeilKind (x : Nat) (b f want : Int) (is : Bool) : Nat → Prop where
  | least (h : (FloatKind.f64.format.order x 14114281232179134464 == some Ordering.eq) = true) (hb : b = -9223372036854775808) (hf : f = 0) : CeilKind x b f want is 0
  | fits (h : (FloatKind.f64.format.order x 14114281232179134464 == some Ordering.eq) = false) (hi : is = true) (hw : (want == -9223372036854775808) = false) (hb : wrap64 (-want) = b) (hf : f = 0) : CeilKind x b f want is 1
  | none (h : (FloatKind.f64.format.order x 14114281232179134464 == some Ordering.eq) = false) (hi : is = false) (hw : (want == -9223372036854775808) = false) (hb : b = 0) (hf : f = 15) : CeilKind x b f want is 2
  | top (h : (FloatKind.f64.format.order x 14114281232179134464 == some Ordering.eq) = false) (hi : is = true) (hw : (want == -9223372036854775808) = true) (hb : b = 0) (hf : f = 15) : CeilKind x b f want is 3
theorem eq_num {a b : Nat} (ha : isNan a = false) (hb : isNan b = false) : (FloatKind.f64.format.order a b == some Ordering.eq) = decide (sV a = sV b) := by
  rw [ord_eq]; unfold fEq; rw [ha, hb]
  simp only [Bool.not_false, Bool.true_and]
  exact decide_eq_decide.2 (sV_eq a b).symm
theorem lt_num {a b : Nat} (ha : isNan a = false) (hb : isNan b = false) : (FloatKind.f64.format.order a b == some Ordering.lt) = decide (sV a < sV b) := by
  rw [ord_lt]; unfold fLt; rw [ha, hb]
  simp only [Bool.not_false, Bool.true_and]
  exact decide_eq_decide.2 (sV_lt a b).symm
theorem gt_num {a b : Nat} (ha : isNan a = false) (hb : isNan b = false) : (FloatKind.f64.format.order a b == some Ordering.gt) = decide (sV b < sV a) := by
  rw [ord_gt, ← ord_lt, lt_num hb ha]
theorem ceil_kind {x : Nat} (hx : isNan x = false) : ∃ b f want is k, wholR .up x = (b, f) ∧ wholR .down (negB x) = (want, if is then 0 else 15) ∧ CeilKind x b f want is k ∧ k < 4 := by
  have hy : isNan (negB x) = false := by rw [neg_nan, hx]
  have heq := eq_num (a := x) (b := 14114281232179134464) hx (by decide)
  rw [lim_lo] at heq
  by_cases hi : rung x = 9218868437227405312
  · refine ⟨0, 15, 0, false, 2, ?_, ?_, .none ?_ rfl (by decide) rfl rfl, by decide⟩
    · unfold wholR; rw [hx, if_neg (by simp), if_pos hi]
    · unfold wholR; rw [hy, if_neg (by simp), if_pos (by rw [neg_rung, hi])]; rfl
    · rw [heq]
      apply decide_eq_false
      rw [sV_inf hi]
      intro c
      have ht := top_big
      have c1 := Int.eq_of_mul_eq_mul_right (show (U : Int) ≠ 0 by have := U_pos; omega) c
      unfold sg at c1
      generalize 2 ^ top = z at *
      split at c1 <;> omega
  · have hiy : rung (negB x) ≠ 9218868437227405312 := by rw [neg_rung]; exact hi
    obtain ⟨q1, q2⟩ := ceil_prop x
    obtain ⟨p1, p2⟩ := floor_prop (negB x)
    rw [neg_sV] at p1 p2
    have hU : wholR .up x = if -9223372036854775808 ≤ sg (isNeg x) (whol .up x) ∧ sg (isNeg x) (whol .up x) ≤ 9223372036854775807 then (sg (isNeg x) (whol .up x), 0) else (0, 15) := by
      unfold wholR; rw [hx, if_neg (by simp), if_neg hi]
    have hD : wholR .down (negB x) = if -9223372036854775808 ≤ sg (isNeg (negB x)) (whol .down (negB x)) ∧ sg (isNeg (negB x)) (whol .down (negB x)) ≤ 9223372036854775807 then (sg (isNeg (negB x)) (whol .down (negB x)), 0) else (0, 15) := by
      unfold wholR; rw [hy, if_neg (by simp), if_neg hiy]
    have hbig : sg (isNeg (negB x)) (whol .down (negB x)) = 9223372036854775808 → sV x = -9223372036854775808 * U := by
      intro c
      rw [c] at p1 p2
      have hV : (V (rung x) : Int) = -sV x := by
        unfold sV at p1 ⊢
        cases hs : isNeg x
        · rw [hs] at p1
          simp only [Bool.false_eq_true, if_false] at p1
          have := U_pos
          omega
        · simp
      have hm := big_whole (r := rung x) (by omega)
      obtain ⟨z, hz⟩ : ∃ z, V (rung x) = z * U := ⟨V (rung x) / U, by have := Nat.div_add_mod (V (rung x)) U; rw [Nat.mul_comm]; omega⟩
      rw [hz, Int.natCast_mul] at hV
      rw [← hV] at p1 p2
      have z1 : (9223372036854775808 : Int) ≤ z := int_gap (by have := U_pos; omega)
      have z2 : (z : Int) ≤ 9223372036854775808 := int_gap (by rw [Int.add_mul] at p2; omega)
      have z3 : (z : Int) = 9223372036854775808 := by omega
      rw [z3] at hV
      omega
    generalize sg (isNeg x) (whol .up x) = C at *
    generalize sg (isNeg (negB x)) (whol .down (negB x)) = F at *
    have hCF : C = -F := by
      have c1 : C ≤ -F := int_gap (by rw [Int.neg_mul]; rw [Int.sub_mul] at q2; omega)
      have c2 : -F ≤ C := int_gap (by rw [Int.neg_mul]; rw [Int.add_mul] at p2; omega)
      omega
    by_cases hA : sV x = -9223372036854775808 * U
    · have hC : C = -9223372036854775808 := by
        rw [hA] at q1 q2
        have c1 : -9223372036854775808 ≤ C := int_gap (by have := U_pos; omega)
        have c2 : C ≤ -9223372036854775808 := int_gap (by rw [Int.sub_mul] at q2; omega)
        omega
      have hF : F = 9223372036854775808 := by omega
      refine ⟨-9223372036854775808, 0, 0, false, 0, ?_, ?_, .least (by rw [heq]; exact decide_eq_true hA) rfl rfl, by decide⟩
      · rw [hU, hC]; rfl
      · rw [hD, hF]; rfl
    · have h1 := heq.trans (decide_eq_false hA)
      by_cases hin : -9223372036854775808 ≤ F ∧ F ≤ 9223372036854775807
      · by_cases ht : F = -9223372036854775808
        · refine ⟨0, 15, F, true, 3, ?_, ?_, .top h1 rfl (by simp [ht]) rfl rfl, by decide⟩
          · rw [hU, if_neg (by omega)]
          · rw [hD, if_pos hin]; rfl
        · refine ⟨C, 0, F, true, 1, ?_, ?_, .fits h1 rfl (by simp [ht]) (by rw [hCF]; unfold wrap64; omega) rfl, by decide⟩
          · rw [hU, if_pos (by omega)]
          · rw [hD, if_pos hin]; rfl
      · have hne : F ≠ 9223372036854775808 := fun c => hA (hbig c)
        refine ⟨0, 15, 0, false, 2, ?_, ?_, .none h1 rfl (by decide) rfl rfl, by decide⟩
        · rw [hU, if_neg (by omega)]
        · rw [hD, if_neg hin]; rfl
/-- how x stands to n -/
inductive CmpKind (x : Nat) (lo hi : Nat) (c : Int) : Nat → Prop where
  | same (hc : c = 0) (a1 : (FloatKind.f64.format.order hi x == some Ordering.gt) = false) (a2 : (FloatKind.f64.format.order lo x == some Ordering.gt) = false) (a3 : (FloatKind.f64.format.order lo x == some Ordering.lt) = false) (a4 : (FloatKind.f64.format.order hi x == some Ordering.lt) = false) (a5 : (FloatKind.f64.format.order lo x == some Ordering.eq) = true) (a6 : (FloatKind.f64.format.order hi x == some Ordering.eq) = true) : CmpKind x lo hi c 0
  | below1 (hc : c = -1) (a1 : (FloatKind.f64.format.order hi x == some Ordering.gt) = true) (a3 : (FloatKind.f64.format.order lo x == some Ordering.lt) = false) (a4 : (FloatKind.f64.format.order hi x == some Ordering.lt) = false) (a5 : (FloatKind.f64.format.order lo x == some Ordering.eq) = true) (a6 : (FloatKind.f64.format.order hi x == some Ordering.eq) = false) : CmpKind x lo hi c 1
  | below0 (hc : c = -1) (a1 : (FloatKind.f64.format.order hi x == some Ordering.gt) = true) (a3 : (FloatKind.f64.format.order lo x == some Ordering.lt) = false) (a4 : (FloatKind.f64.format.order hi x == some Ordering.lt) = false) (a5 : (FloatKind.f64.format.order lo x == some Ordering.eq) = false) (a7 : (FloatKind.f64.format.order lo x == some Ordering.gt) = true) : CmpKind x lo hi c 2
  | above (hc : c = 1) (a1 : (FloatKind.f64.format.order hi x == some Ordering.gt) = false) (a2 : (FloatKind.f64.format.order lo x == some Ordering.gt) = false) (a3 : (FloatKind.f64.format.order lo x == some Ordering.lt) = true) (a5 : (FloatKind.f64.format.order lo x == some Ordering.eq) = false) (a8 : (FloatKind.f64.format.order hi x == some Ordering.lt || FloatKind.f64.format.order hi x == some Ordering.eq) = true) : CmpKind x lo hi c 3
theorem cmp_kind {x : Nat} {n : Int} {g : Nat} (hx : isNan x = false) (h : At g n.natAbs) : ∃ k, CmpKind x (loOf n g) (hiOf n g) (cmpZ (sV x) (n * U)) k ∧ k < 4 := by
  obtain ⟨l1, l2, l3, l4⟩ := lohi_ok h
  obtain ⟨q1, q2⟩ := lo_le h
  have g1 := fun (c : sV x ≤ n * U) => (sV_le _ _).2 (lo_greatest h c)
  have g2 := fun (c : n * U ≤ sV x) => (sV_le _ _).2 (hi_least h c)
  have hex : sV (loOf n g) = n * U → sV (hiOf n g) = n * U := by
    intro c
    by_cases he : V g = n.natAbs * U
    · have e : hiOf n g = loOf n g := by unfold hiOf loOf; rw [if_pos he, if_pos he]
      rw [e, c]
    · have := (pair_of h he).less; omega
  generalize loOf n g = lo at *
  generalize hiOf n g = hi at *
  rcases Int.lt_trichotomy (sV x) (n * U) with c | c | c
  · have := g1 (by omega)
    have hc : cmpZ (sV x) (n * U) = -1 := by unfold cmpZ; rw [if_pos c]
    by_cases t : sV lo = sV x
    · exact ⟨1, .below1 hc (by rw [gt_num l4 hx]; exact decide_eq_true (by omega)) (by rw [lt_num l3 hx]; exact decide_eq_false (by omega)) (by rw [lt_num l4 hx]; exact decide_eq_false (by omega)) (by rw [eq_num l3 hx]; exact decide_eq_true t) (by rw [eq_num l4 hx]; exact decide_eq_false (by omega)), by decide⟩
    · exact ⟨2, .below0 hc (by rw [gt_num l4 hx]; exact decide_eq_true (by omega)) (by rw [lt_num l3 hx]; exact decide_eq_false (by omega)) (by rw [lt_num l4 hx]; exact decide_eq_false (by omega)) (by rw [eq_num l3 hx]; exact decide_eq_false t) (by rw [gt_num l3 hx]; exact decide_eq_true (by omega)), by decide⟩
  · have := g1 (by omega)
    have := g2 (by omega)
    exact ⟨0, .same (by unfold cmpZ; rw [if_neg (by omega), if_neg (by omega)]) (by rw [gt_num l4 hx]; exact decide_eq_false (by omega)) (by rw [gt_num l3 hx]; exact decide_eq_false (by omega)) (by rw [lt_num l3 hx]; exact decide_eq_false (by omega)) (by rw [lt_num l4 hx]; exact decide_eq_false (by omega)) (by rw [eq_num l3 hx]; exact decide_eq_true (by omega)) (by rw [eq_num l4 hx]; exact decide_eq_true (by omega)), by decide⟩
  · have := g2 (by omega)
    refine ⟨3, .above (by unfold cmpZ; rw [if_neg (by omega), if_pos c]) (by rw [gt_num l4 hx]; exact decide_eq_false (by omega)) (by rw [gt_num l3 hx]; exact decide_eq_false (by omega)) (by rw [lt_num l3 hx]; exact decide_eq_true (by omega)) (by rw [eq_num l3 hx]; exact decide_eq_false (by omega)) ?_, by decide⟩
    rw [lt_num l4 hx, eq_num l4 hx]
    by_cases e : sV hi = sV x
    · rw [decide_eq_true e]; simp
    · rw [decide_eq_true (show sV hi < sV x by omega)]; rfl
/-- the calls of the law -/
structure WholeFacts (x : Nat) (n : Int) (y lo hi : Nat) (a e b f c want : Int) (isA isB : Bool) : Prop where
  floor : ∀ w, Calls Try.prog 23 #[.float .f64 x] w fun z w' => z = .returned (.tuple #[.int .i64 a, .int .i64 e]) ∧ w = w'
  ceil : ∀ w, Calls Try.prog 24 #[.float .f64 x] w fun z w' => z = .returned (.tuple #[.int .i64 b, .int .i64 f]) ∧ w = w'
  cmp : ∀ w, Calls Try.prog 22 #[.float .f64 x, .int .i64 n] w fun z w' => z = .returned (.tuple #[.int .i64 c, .int .i64 0]) ∧ w = w'
  ref : ∀ w, Calls Try.prog 25 #[.float .f64 x] w fun z w' => z = .returned (.tuple #[.int .i64 a, .bool isA]) ∧ w = w'
  ref2 : ∀ w, Calls Try.prog 25 #[.float .f64 y] w fun z w' => z = .returned (.tuple #[.int .i64 want, .bool isB]) ∧ w = w'
  neg : ∀ w, (Op.unary UnOp.neg (.float .f64 x)).run Try.prog w = .ok (.float .f64 y) w
  down : ∀ w, Calls Try.prog 19 #[.int .i64 n] w fun z w' => z = .returned (.float .f64 lo) ∧ w = w'
  up : ∀ w, Calls Try.prog 20 #[.int .i64 n] w fun z w' => z = .returned (.float .f64 hi) ∧ w = w'
  same : ∀ p w, Calls Try.prog 26 #[.int .i64 p, .int .i64 0, .int .i64 p] w fun z w' => z = .returned (.bool true) ∧ w = w'
  num : (FloatKind.f64.format.order x x != some Ordering.eq) = false
  isE : isA = true ∧ e = 0 ∨ isA = false ∧ e = 15 ∧ a = 0
theorem whole_facts (x : Nat) (n : Int) (hx : isNan x = false) (h64 : x < 18446744073709551616) (n1 : -9223372036854775808 ≤ n) (n2 : n ≤ 9223372036854775807) :
    ∃ y lo hi a e b f c want isA isB k j, WholeFacts x n y lo hi a e b f c want isA isB ∧ CeilKind x b f want isB k ∧ k < 4 ∧ CmpKind x lo hi c j ∧ j < 4 := by
  obtain ⟨g, h⟩ := at_exists n1 n2
  obtain ⟨b, f, want, isB, k, k1, k2, k3, k4⟩ := ceil_kind hx
  obtain ⟨j, j1, j2⟩ := cmp_kind (n := n) hx h
  have hA : ∃ a isA, wholR .down x = (a, if isA then 0 else 15) ∧ (isA = false → a = 0) := by
    rcases wholR_cases (way := .down) hx with ⟨_, _, _, c3⟩ | ⟨c3, _⟩
    · exact ⟨_, true, c3, fun c => by cases c⟩
    · exact ⟨0, false, c3, fun _ => rfl⟩
  obtain ⟨a, isA, a1, a2⟩ := hA
  have hy : isNan (negB x) = false := by rw [neg_nan, hx]
  refine ⟨negB x, _, _, a, if isA then 0 else 15, b, f, _, want, isA, isB, k, j, ?_, k3, k4, j1, j2⟩
  exact {
    floor := fun w => fFloor_is w h64 (quiet_num hx) a1
    ceil := fun w => fCeil_is w h64 (quiet_num hx) k1
    cmp := fun w => fCmp_is w h64 hx n1 n2 rfl
    ref := fun w => refFloor_is w hx a1
    ref2 := fun w => refFloor_is w hy k2
    neg := fun w => by rw [← neg_run h64]; rfl
    down := fun w => refDown_is w n1 n2 h rfl
    up := fun w => refUp_is w n1 n2 h rfl
    same := fun p w => lawWhole_is w (by unfold lawWholeB; simp)
    num := by rw [ord_ne, fEq_self, hx]; rfl
    isE := by cases isA
              · exact .inr ⟨rfl, rfl, a2 rfl⟩
              · exact .inl ⟨rfl, rfl⟩ }
end Go.Proofs.Ytadnehnhgnfclaa
