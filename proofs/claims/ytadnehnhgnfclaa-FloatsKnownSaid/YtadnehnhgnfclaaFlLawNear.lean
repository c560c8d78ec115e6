/-
  DERIVED. WALK of the law FloatsNear.
-/
import Derived.Test.YtadnehnhgnfclaaFlRefC
import Derived.Test.YtadnehnhgnfclaaFlLives
namespace Go.Proofs.Ytadnehnhgnfclaa
open Go.RowKit

theorem lo_le {n : Int} {g : Nat} (h : At g n.natAbs) : sV (loOf n g) ≤ n * U ∧ n * U ≤ sV (hiOf n g) := by
  by_cases he : V g = n.natAbs * U
  · have hs : sV (dw (decide (n < 0)) g) = n * U := by
      rw [sV_dw h.2.2 he]
      unfold sg
      by_cases hf0 : n < 0
      · simp only [hf0, decide_true, if_true]; congr 1; omega
      · simp only [hf0, decide_false, Bool.false_eq_true, if_false]; congr 1; omega
    unfold loOf hiOf
    rw [if_pos he, if_pos he, hs]
    exact ⟨Int.le_refl _, Int.le_refl _⟩
  · have P := pair_of h he
    have := P.less; have := P.more
    omega
theorem key_dw_pos {g : Nat} (h : g ≤ 9218868437227405312) : key (dw false g) = g := by unfold key; rw [dw_neg (by omega), dw_rung (by omega)]; rfl
theorem key_dw_neg {g : Nat} (h : g ≤ 9218868437227405312) : key (dw true g) = -(g : Int) := by unfold key; rw [dw_neg (by omega), dw_rung (by omega)]; rfl
theorem key_next {n : Int} {g : Nat} (h : At g n.natAbs) (hx : ¬ V g = n.natAbs * U) : key (hiOf n g) = key (loOf n g) + 1 := by
  have h3 := h.2.2
  unfold loOf hiOf
  rw [if_neg hx, if_neg hx]
  by_cases hn : n < 0
  · rw [if_pos hn, if_pos hn, key_dw_neg (by omega), key_dw_neg (by omega)]; omega
  · rw [if_neg hn, if_neg hn, key_dw_pos (by omega), key_dw_pos (by omega)]; omega
theorem sV_le (a b : Nat) : sV a ≤ sV b ↔ key a ≤ key b := by have := sV_lt b a; omega
/-- nothing greater is at most n; nothing less is at least n -/
theorem lo_greatest {n : Int} {g : Nat} (h : At g n.natAbs) {b : Nat} (hb : sV b ≤ n * U) : key b ≤ key (loOf n g) := by
  by_cases he : V g = n.natAbs * U
  · have := (lo_le h).2
    have e : hiOf n g = loOf n g := by unfold hiOf loOf; rw [if_pos he, if_pos he]
    rw [e] at this
    exact (sV_le _ _).1 (by omega)
  · have P := pair_of h he
    have h1 : sV b < sV (hiOf n g) := by have := P.more; omega
    have h2 := (sV_lt _ _).1 h1
    have := key_next h he
    omega
theorem hi_least {n : Int} {g : Nat} (h : At g n.natAbs) {b : Nat} (hb : n * U ≤ sV b) : key (hiOf n g) ≤ key b := by
  by_cases he : V g = n.natAbs * U
  · have := (lo_le h).1
    have e : hiOf n g = loOf n g := by unfold hiOf loOf; rw [if_pos he, if_pos he]
    rw [e]
    exact (sV_le _ _).1 (by omega)
  · have P := pair_of h he
    have h1 : sV (loOf n g) < sV b := by have := P.less; omega
    have h2 := (sV_lt _ _).1 h1
    have := key_next h he
    omega
theorem mulU_le {a b : Int} (h : a ≤ b) : a * U ≤ b * U := Int.mul_le_mul_of_nonneg_right h (by omega)
theorem lo_mono {m n : Int} {g g' : Nat} (h : At g n.natAbs) (h' : At g' m.natAbs) (hmn : m ≤ n) : key (loOf m g') ≤ key (loOf n g) ∧ key (hiOf m g') ≤ key (hiOf n g) :=
  ⟨lo_greatest h (Int.le_trans (lo_le h').1 (mulU_le hmn)), hi_least h' (Int.le_trans (mulU_le hmn) (lo_le h).2)⟩
theorem fLt_no {a b : Nat} (h : key b ≤ key a) : fLt a b = false := by
  unfold fLt
  have : ¬ key a < key b := by omega
  simp [this]
theorem lohi_ok {n : Int} {g : Nat} (h : At g n.natAbs) : loOf n g < 18446744073709551616 ∧ hiOf n g < 18446744073709551616 ∧ isNan (loOf n g) = false ∧ isNan (hiOf n g) = false := by
  have h3 := h.2.2
  unfold loOf hiOf
  refine ⟨?_, ?_, ?_, ?_⟩ <;> repeat' split
  all_goals first | exact dw_lt (by omega) | exact nan_dw' (by omega)
/-- the floor of Down(n) -/
theorem floor_lo {n : Int} {g : Nat} (h : At g n.natAbs) (n1 : -9223372036854775808 ≤ n) (n2 : n ≤ 9223372036854775807) :
    ∃ f, wholR .down (loOf n g) = (f, 0) ∧ (f == n) = decide (V g = n.natAbs * U) := by
  obtain ⟨l1, l2, l3, l4⟩ := lohi_ok h
  obtain ⟨p1, p2⟩ := floor_prop (loOf n g)
  obtain ⟨q1, q2⟩ := lo_le h
  have hmin : -9223372036854775808 * U ≤ sV (loOf n g) := by
    rw [← lim_lo]
    exact (sV_le _ _).2 (lo_greatest h (by rw [lim_lo]; exact mulU_le n1))
  have hi : rung (loOf n g) ≠ 9218868437227405312 := by
    intro c
    have e := sV_inf c
    have ht := top_big
    rw [e] at hmin q1
    have a1 : sg (isNeg (loOf n g)) (2 ^ top) ≤ n := Int.not_lt.1 fun c2 => by have := (mulU_lt _ _).2 c2; omega
    have a2 : -9223372036854775808 ≤ sg (isNeg (loOf n g)) (2 ^ top) := Int.not_lt.1 fun c2 => by have := (mulU_lt _ _).2 c2; omega
    unfold sg at a1 a2
    generalize 2 ^ top = z at *
    cases hs : isNeg (loOf n g)
    · simp only [hs, Bool.false_eq_true, if_false] at a1 a2; omega
    · simp only [hs, if_true] at a1 a2; omega
  generalize hf : sg (isNeg (loOf n g)) (whol .down (loOf n g)) = f at *
  have f2 : f ≤ n := Int.not_lt.1 fun c => by have := (mulU_lt _ _).2 c; omega
  have f1 : -9223372036854775808 ≤ f := by
    have : -9223372036854775808 < f + 1 := Int.lt_of_not_ge fun c => by have := mulU_le c; omega
    omega
  refine ⟨f, ?_, ?_⟩
  · unfold wholR
    rw [l3, if_neg (by simp), if_neg hi, hf, if_pos ⟨f1, by omega⟩]
  · by_cases he : V g = n.natAbs * U
    · have e : hiOf n g = loOf n g := by unfold hiOf loOf; rw [if_pos he, if_pos he]
      rw [e] at q2
      have : n < f + 1 := Int.lt_of_not_ge fun c => by have := mulU_le c; omega
      have : f = n := by omega
      simp [this, he]
    · have P := pair_of h he
      have := P.less
      have : f ≠ n := fun c => by rw [c] at p1; omega
      simp [this, he]
/-- all that the walk asks -/
structure NearFacts (n m : Int) (x y x' y' : Nat) (f c d : Int) (b : Bool) : Prop where
  down : ∀ w, Calls Try.prog 17 #[.int .i64 n] w fun e w' => e = .returned (.float .f64 x) ∧ w = w'
  up : ∀ w, Calls Try.prog 18 #[.int .i64 n] w fun e w' => e = .returned (.float .f64 y) ∧ w = w'
  rdown : ∀ w, Calls Try.prog 19 #[.int .i64 n] w fun e w' => e = .returned (.float .f64 x) ∧ w = w'
  rup : ∀ w, Calls Try.prog 20 #[.int .i64 n] w fun e w' => e = .returned (.float .f64 y) ∧ w = w'
  mdown : ∀ w, Calls Try.prog 17 #[.int .i64 m] w fun e w' => e = .returned (.float .f64 x') ∧ w = w'
  mup : ∀ w, Calls Try.prog 18 #[.int .i64 m] w fun e w' => e = .returned (.float .f64 y') ∧ w = w'
  samex : ∀ w, Calls Try.prog 10 #[.float .f64 x, .float .f64 x] w fun e w' => e = .returned (.bool true) ∧ w = w'
  samey : ∀ w, Calls Try.prog 10 #[.float .f64 y, .float .f64 y] w fun e w' => e = .returned (.bool true) ∧ w = w'
  exact : ∀ w, Calls Try.prog 21 #[.int .i64 n] w fun e w' => e = .returned (.bool b) ∧ w = w'
  next : b = false → ∀ w, Calls Try.prog 12 #[.float .f64 x] w fun e w' => e = .returned (.tuple #[.float .f64 y, .int .i64 0]) ∧ w = w'
  cmpx : ∀ w, Calls Try.prog 22 #[.float .f64 x, .int .i64 n] w fun e w' => e = .returned (.tuple #[.int .i64 c, .int .i64 0]) ∧ w = w'
  cmpy : ∀ w, Calls Try.prog 22 #[.float .f64 y, .int .i64 n] w fun e w' => e = .returned (.tuple #[.int .i64 d, .int .i64 0]) ∧ w = w'
  floor : ∀ w, Calls Try.prog 23 #[.float .f64 x] w fun e w' => e = .returned (.tuple #[.int .i64 f, .int .i64 0]) ∧ w = w'
  gt : (FloatKind.f64.format.order x y == some Ordering.gt) = false
  eq : (FloatKind.f64.format.order x y == some Ordering.eq) = b
  ne : (FloatKind.f64.format.order x y != some Ordering.eq) = !b
  c0 : (c == 0) = b
  d0 : (d == 0) = b
  cle : c ≤ 0
  dge : 0 ≤ d
  fn : (f == n) = b
  le1 : m ≤ n → (FloatKind.f64.format.order x' x == some Ordering.gt) = false
  le2 : m ≤ n → (FloatKind.f64.format.order y' y == some Ordering.gt) = false
  ge1 : n ≤ m → (FloatKind.f64.format.order x' x == some Ordering.lt) = false
  ge2 : n ≤ m → (FloatKind.f64.format.order y' y == some Ordering.lt) = false
theorem near_facts (n m : Int) (n1 : -9223372036854775808 ≤ n) (n2 : n ≤ 9223372036854775807) (m1 : -9223372036854775808 ≤ m) (m2 : m ≤ 9223372036854775807) :
    ∃ x y x' y' f c d b, NearFacts n m x y x' y' f c d b := by
  obtain ⟨g, h⟩ := at_exists n1 n2
  obtain ⟨g', h'⟩ := at_exists m1 m2
  obtain ⟨f, hf, hfn⟩ := floor_lo h n1 n2
  obtain ⟨l1, l2, l3, l4⟩ := lohi_ok h
  have heq := lohi_eq h
  have hle := lo_le h
  refine ⟨loOf n g, hiOf n g, loOf m g', hiOf m g', f, cmpZ (sV (loOf n g)) (n * U), cmpZ (sV (hiOf n g)) (n * U), decide (V g = n.natAbs * U), ?_⟩
  have hx : ∀ z, sameB z z = true := fun z => by unfold sameB; simp
  exact {
    down := fun w => down_is w n1 n2 h rfl
    up := fun w => up_is w n1 n2 h rfl
    rdown := fun w => refDown_is w n1 n2 h rfl
    rup := fun w => refUp_is w n1 n2 h rfl
    mdown := fun w => down_is w m1 m2 h' rfl
    mup := fun w => up_is w m1 m2 h' rfl
    samex := fun w => same_is w (hx _)
    samey := fun w => same_is w (hx _)
    exact := fun w => exact_is w n1 n2 h rfl
    next := fun hb w => next_is w l1 (pair_of h (of_decide_eq_false hb)).up
    cmpx := fun w => fCmp_is w l1 l3 n1 n2 rfl
    cmpy := fun w => fCmp_is w l2 l4 n1 n2 rfl
    floor := fun w => fFloor_is w l1 (quiet_num l3) hf
    gt := by rw [ord_gt]; exact fLt_no ((sV_le _ _).1 (by omega))
    eq := heq
    ne := by rw [ord_ne, ← ord_eq, heq]
    c0 := by
      by_cases he : V g = n.natAbs * U
      · have e : hiOf n g = loOf n g := by unfold hiOf loOf; rw [if_pos he, if_pos he]
        rw [e] at hle
        rw [decide_eq_true he]; unfold cmpZ; rw [if_neg (by omega), if_neg (by omega)]; rfl
      · have P := (pair_of h he).less
        rw [decide_eq_false he]; unfold cmpZ; rw [if_pos P]; rfl
    d0 := by
      by_cases he : V g = n.natAbs * U
      · have e : hiOf n g = loOf n g := by unfold hiOf loOf; rw [if_pos he, if_pos he]
        rw [e] at hle ⊢
        rw [decide_eq_true he]; unfold cmpZ; rw [if_neg (by omega), if_neg (by omega)]; rfl
      · have P := (pair_of h he).more
        rw [decide_eq_false he]; unfold cmpZ; rw [if_neg (by omega), if_pos P]; rfl
    cle := by unfold cmpZ; repeat' split
              all_goals omega
    dge := by unfold cmpZ; repeat' split
              all_goals omega
    fn := hfn
    le1 := fun c => by rw [ord_gt]; exact fLt_no (lo_mono h h' c).1
    le2 := fun c => by rw [ord_gt]; exact fLt_no (lo_mono h h' c).2
    ge1 := fun c => by rw [ord_lt]; exact fLt_no (lo_mono h' h c).1
    ge2 := fun c => by rw [ord_lt]; exact fLt_no (lo_mono h' h c).2 }
set_option maxRecDepth 100000 in
set_option maxHeartbeats 2000000 in
theorem lawNear_true_lt (n m : Int) (w : World) (hr : m < n) {x y x' y' : Nat} {f c d : Int} (F : NearFacts n m x y x' y' f c d true) :
    Calls Try.prog 5 #[.int .i64 n, .int .i64 m] w fun e w' => e = .returned (.bool true) ∧ w = w' := by
  have gt := F.gt
  have eq := F.eq
  have ne := F.ne
  have c0 := F.c0
  have d0 := F.d0
  have cle := F.cle
  have dge := F.dge
  have fn := F.fn
  have le1 := F.le1 (by omega)
  have le2 := F.le2 (by omega)
  go_enter Try.func5, Try.ntmps5
  go_wp2_with fail
  refine (F.down _).mono ?_
  rintro e w' ⟨rfl, rfl⟩
  go_wp2_with fail
  refine (F.up _).mono ?_
  rintro e w' ⟨rfl, rfl⟩
  go_wp2_with fail
  refine (F.rdown _).mono ?_
  rintro e w' ⟨rfl, rfl⟩
  go_wp2_with fail
  refine (F.samex _).mono ?_
  rintro e w' ⟨rfl, rfl⟩
  go_wp2_with fail
  refine (F.rup _).mono ?_
  rintro e w' ⟨rfl, rfl⟩
  go_wp2_with fail
  refine (F.samey _).mono ?_
  rintro e w' ⟨rfl, rfl⟩
  go_wp2_with fail
  refine (F.exact _).mono ?_
  rintro e w' ⟨rfl, rfl⟩
  go_wp2_with fail
  refine (F.mdown _).mono ?_
  rintro e w' ⟨rfl, rfl⟩
  go_wp2_with fail
  refine (F.mup _).mono ?_
  rintro e w' ⟨rfl, rfl⟩
  go_wp2_with fail
  refine (F.cmpx _).mono ?_
  rintro e w' ⟨rfl, rfl⟩
  go_wp2_with fail
  refine (F.cmpy _).mono ?_
  rintro e w' ⟨rfl, rfl⟩
  go_wp2_with fail
  refine (F.floor _).mono ?_
  rintro e w' ⟨rfl, rfl⟩
  go_wp2_with fail
  refine (F.exact _).mono ?_
  rintro e w' ⟨rfl, rfl⟩
  go_wp2_with fail
  refine (lives_any _).mono ?_
  rintro e w' ⟨rfl, rfl⟩
  go_wp2_with fail
  go_ret
  exact ⟨rfl, rfl⟩
set_option maxRecDepth 100000 in
set_option maxHeartbeats 2000000 in
theorem lawNear_true_eq (n m : Int) (w : World) (hr : m = n) {x y x' y' : Nat} {f c d : Int} (F : NearFacts n m x y x' y' f c d true) :
    Calls Try.prog 5 #[.int .i64 n, .int .i64 m] w fun e w' => e = .returned (.bool true) ∧ w = w' := by
  have gt := F.gt
  have eq := F.eq
  have ne := F.ne
  have c0 := F.c0
  have d0 := F.d0
  have cle := F.cle
  have dge := F.dge
  have fn := F.fn
  have le1 := F.le1 (by omega)
  have le2 := F.le2 (by omega)
  have ge1 := F.ge1 (by omega)
  have ge2 := F.ge2 (by omega)
  subst hr
  go_enter Try.func5, Try.ntmps5
  go_wp2_with fail
  refine (F.down _).mono ?_
  rintro e w' ⟨rfl, rfl⟩
  go_wp2_with fail
  refine (F.up _).mono ?_
  rintro e w' ⟨rfl, rfl⟩
  go_wp2_with fail
  refine (F.rdown _).mono ?_
  rintro e w' ⟨rfl, rfl⟩
  go_wp2_with fail
  refine (F.samex _).mono ?_
  rintro e w' ⟨rfl, rfl⟩
  go_wp2_with fail
  refine (F.rup _).mono ?_
  rintro e w' ⟨rfl, rfl⟩
  go_wp2_with fail
  refine (F.samey _).mono ?_
  rintro e w' ⟨rfl, rfl⟩
  go_wp2_with fail
  refine (F.exact _).mono ?_
  rintro e w' ⟨rfl, rfl⟩
  go_wp2_with fail
  refine (F.mdown _).mono ?_
  rintro e w' ⟨rfl, rfl⟩
  go_wp2_with fail
  refine (F.mup _).mono ?_
  rintro e w' ⟨rfl, rfl⟩
  go_wp2_with fail
  refine (F.mdown _).mono ?_
  rintro e w' ⟨rfl, rfl⟩
  go_wp2_with fail
  refine (F.mup _).mono ?_
  rintro e w' ⟨rfl, rfl⟩
  go_wp2_with fail
  refine (F.cmpx _).mono ?_
  rintro e w' ⟨rfl, rfl⟩
  go_wp2_with fail
  refine (F.cmpy _).mono ?_
  rintro e w' ⟨rfl, rfl⟩
  go_wp2_with fail
  refine (F.floor _).mono ?_
  rintro e w' ⟨rfl, rfl⟩
  go_wp2_with fail
  refine (F.exact _).mono ?_
  rintro e w' ⟨rfl, rfl⟩
  go_wp2_with fail
  refine (lives_any _).mono ?_
  rintro e w' ⟨rfl, rfl⟩
  go_wp2_with fail
  go_ret
  exact ⟨rfl, rfl⟩
set_option maxRecDepth 100000 in
set_option maxHeartbeats 2000000 in
theorem lawNear_true_gt (n m : Int) (w : World) (hr : n < m) {x y x' y' : Nat} {f c d : Int} (F : NearFacts n m x y x' y' f c d true) :
    Calls Try.prog 5 #[.int .i64 n, .int .i64 m] w fun e w' => e = .returned (.bool true) ∧ w = w' := by
  have gt := F.gt
  have eq := F.eq
  have ne := F.ne
  have c0 := F.c0
  have d0 := F.d0
  have cle := F.cle
  have dge := F.dge
  have fn := F.fn
  have ge1 := F.ge1 (by omega)
  have ge2 := F.ge2 (by omega)
  go_enter Try.func5, Try.ntmps5
  go_wp2_with fail
  refine (F.down _).mono ?_
  rintro e w' ⟨rfl, rfl⟩
  go_wp2_with fail
  refine (F.up _).mono ?_
  rintro e w' ⟨rfl, rfl⟩
  go_wp2_with fail
  refine (F.rdown _).mono ?_
  rintro e w' ⟨rfl, rfl⟩
  go_wp2_with fail
  refine (F.samex _).mono ?_
  rintro e w' ⟨rfl, rfl⟩
  go_wp2_with fail
  refine (F.rup _).mono ?_
  rintro e w' ⟨rfl, rfl⟩
  go_wp2_with fail
  refine (F.samey _).mono ?_
  rintro e w' ⟨rfl, rfl⟩
  go_wp2_with fail
  refine (F.exact _).mono ?_
  rintro e w' ⟨rfl, rfl⟩
  go_wp2_with fail
  refine (F.mdown _).mono ?_
  rintro e w' ⟨rfl, rfl⟩
  go_wp2_with fail
  refine (F.mup _).mono ?_
  rintro e w' ⟨rfl, rfl⟩
  go_wp2_with fail
  refine (F.cmpx _).mono ?_
  rintro e w' ⟨rfl, rfl⟩
  go_wp2_with fail
  refine (F.cmpy _).mono ?_
  rintro e w' ⟨rfl, rfl⟩
  go_wp2_with fail
  refine (F.floor _).mono ?_
  rintro e w' ⟨rfl, rfl⟩
  go_wp2_with fail
  refine (F.exact _).mono ?_
  rintro e w' ⟨rfl, rfl⟩
  go_wp2_with fail
  refine (lives_any _).mono ?_
  rintro e w' ⟨rfl, rfl⟩
  go_wp2_with fail
  go_ret
  exact ⟨rfl, rfl⟩
set_option maxRecDepth 100000 in
set_option maxHeartbeats 2000000 in
theorem lawNear_false_lt (n m : Int) (w : World) (hr : m < n) {x y x' y' : Nat} {f c d : Int} (F : NearFacts n m x y x' y' f c d false) :
    Calls Try.prog 5 #[.int .i64 n, .int .i64 m] w fun e w' => e = .returned (.bool true) ∧ w = w' := by
  have gt := F.gt
  have eq := F.eq
  have ne := F.ne
  have c0 := F.c0
  have d0 := F.d0
  have cle := F.cle
  have dge := F.dge
  have fn := F.fn
  have le1 := F.le1 (by omega)
  have le2 := F.le2 (by omega)
  go_enter Try.func5, Try.ntmps5
  go_wp2_with fail
  refine (F.down _).mono ?_
  rintro e w' ⟨rfl, rfl⟩
  go_wp2_with fail
  refine (F.up _).mono ?_
  rintro e w' ⟨rfl, rfl⟩
  go_wp2_with fail
  refine (F.rdown _).mono ?_
  rintro e w' ⟨rfl, rfl⟩
  go_wp2_with fail
  refine (F.samex _).mono ?_
  rintro e w' ⟨rfl, rfl⟩
  go_wp2_with fail
  refine (F.rup _).mono ?_
  rintro e w' ⟨rfl, rfl⟩
  go_wp2_with fail
  refine (F.samey _).mono ?_
  rintro e w' ⟨rfl, rfl⟩
  go_wp2_with fail
  refine (F.exact _).mono ?_
  rintro e w' ⟨rfl, rfl⟩
  go_wp2_with fail
  refine (F.next rfl _).mono ?_
  rintro e w' ⟨rfl, rfl⟩
  go_wp2_with fail
  refine (F.samey _).mono ?_
  rintro e w' ⟨rfl, rfl⟩
  go_wp2_with fail
  refine (F.mdown _).mono ?_
  rintro e w' ⟨rfl, rfl⟩
  go_wp2_with fail
  refine (F.mup _).mono ?_
  rintro e w' ⟨rfl, rfl⟩
  go_wp2_with fail
  refine (F.cmpx _).mono ?_
  rintro e w' ⟨rfl, rfl⟩
  go_wp2_with fail
  refine (F.cmpy _).mono ?_
  rintro e w' ⟨rfl, rfl⟩
  go_wp2_with fail
  refine (F.floor _).mono ?_
  rintro e w' ⟨rfl, rfl⟩
  go_wp2_with fail
  refine (F.exact _).mono ?_
  rintro e w' ⟨rfl, rfl⟩
  go_wp2_with fail
  refine (lives_any _).mono ?_
  rintro e w' ⟨rfl, rfl⟩
  go_wp2_with fail
  go_ret
  exact ⟨rfl, rfl⟩
set_option maxRecDepth 100000 in
set_option maxHeartbeats 2000000 in
theorem lawNear_false_eq (n m : Int) (w : World) (hr : m = n) {x y x' y' : Nat} {f c d : Int} (F : NearFacts n m x y x' y' f c d false) :
    Calls Try.prog 5 #[.int .i64 n, .int .i64 m] w fun e w' => e = .returned (.bool true) ∧ w = w' := by
  have gt := F.gt
  have eq := F.eq
  have ne := F.ne
  have c0 := F.c0
  have d0 := F.d0
  have cle := F.cle
  have dge := F.dge
  have fn := F.fn
  have le1 := F.le1 (by omega)
  have le2 := F.le2 (by omega)
  have ge1 := F.ge1 (by omega)
  have ge2 := F.ge2 (by omega)
  subst hr
  go_enter Try.func5, Try.ntmps5
  go_wp2_with fail
  refine (F.down _).mono ?_
  rintro e w' ⟨rfl, rfl⟩
  go_wp2_with fail
  refine (F.up _).mono ?_
  rintro e w' ⟨rfl, rfl⟩
  go_wp2_with fail
  refine (F.rdown _).mono ?_
  rintro e w' ⟨rfl, rfl⟩
  go_wp2_with fail
  refine (F.samex _).mono ?_
  rintro e w' ⟨rfl, rfl⟩
  go_wp2_with fail
  refine (F.rup _).mono ?_
  rintro e w' ⟨rfl, rfl⟩
  go_wp2_with fail
  refine (F.samey _).mono ?_
  rintro e w' ⟨rfl, rfl⟩
  go_wp2_with fail
  refine (F.exact _).mono ?_
  rintro e w' ⟨rfl, rfl⟩
  go_wp2_with fail
  refine (F.next rfl _).mono ?_
  rintro e w' ⟨rfl, rfl⟩
  go_wp2_with fail
  refine (F.samey _).mono ?_
  rintro e w' ⟨rfl, rfl⟩
  go_wp2_with fail
  refine (F.mdown _).mono ?_
  rintro e w' ⟨rfl, rfl⟩
  go_wp2_with fail
  refine (F.mup _).mono ?_
  rintro e w' ⟨rfl, rfl⟩
  go_wp2_with fail
  refine (F.mdown _).mono ?_
  rintro e w' ⟨rfl, rfl⟩
  go_wp2_with fail
  refine (F.mup _).mono ?_
  rintro e w' ⟨rfl, rfl⟩
  go_wp2_with fail
  refine (F.cmpx _).mono ?_
  rintro e w' ⟨rfl, rfl⟩
  go_wp2_with fail
  refine (F.cmpy _).mono ?_
  rintro e w' ⟨rfl, rfl⟩
  go_wp2_with fail
  refine (F.floor _).mono ?_
  rintro e w' ⟨rfl, rfl⟩
  go_wp2_with fail
  refine (F.exact _).mono ?_
  rintro e w' ⟨rfl, rfl⟩
  go_wp2_with fail
  refine (lives_any _).mono ?_
  rintro e w' ⟨rfl, rfl⟩
  go_wp2_with fail
  go_ret
  exact ⟨rfl, rfl⟩
set_option maxRecDepth 100000 in
set_option maxHeartbeats 2000000 in
theorem lawNear_false_gt (n m : Int) (w : World) (hr : n < m) {x y x' y' : Nat} {f c d : Int} (F : NearFacts n m x y x' y' f c d false) :
    Calls Try.prog 5 #[.int .i64 n, .int .i64 m] w fun e w' => e = .returned (.bool true) ∧ w = w' := by
  have gt := F.gt
  have eq := F.eq
  have ne := F.ne
  have c0 := F.c0
  have d0 := F.d0
  have cle := F.cle
  have dge := F.dge
  have fn := F.fn
  have ge1 := F.ge1 (by omega)
  have ge2 := F.ge2 (by omega)
  go_enter Try.func5, Try.ntmps5
  go_wp2_with fail
  refine (F.down _).mono ?_
  rintro e w' ⟨rfl, rfl⟩
  go_wp2_with fail
  refine (F.up _).mono ?_
  rintro e w' ⟨rfl, rfl⟩
  go_wp2_with fail
  refine (F.rdown _).mono ?_
  rintro e w' ⟨rfl, rfl⟩
  go_wp2_with fail
  refine (F.samex _).mono ?_
  rintro e w' ⟨rfl, rfl⟩
  go_wp2_with fail
  refine (F.rup _).mono ?_
  rintro e w' ⟨rfl, rfl⟩
  go_wp2_with fail
  refine (F.samey _).mono ?_
  rintro e w' ⟨rfl, rfl⟩
  go_wp2_with fail
  refine (F.exact _).mono ?_
  rintro e w' ⟨rfl, rfl⟩
  go_wp2_with fail
  refine (F.next rfl _).mono ?_
  rintro e w' ⟨rfl, rfl⟩
  go_wp2_with fail
  refine (F.samey _).mono ?_
  rintro e w' ⟨rfl, rfl⟩
  go_wp2_with fail
  refine (F.mdown _).mono ?_
  rintro e w' ⟨rfl, rfl⟩
  go_wp2_with fail
  refine (F.mup _).mono ?_
  rintro e w' ⟨rfl, rfl⟩
  go_wp2_with fail
  refine (F.cmpx _).mono ?_
  rintro e w' ⟨rfl, rfl⟩
  go_wp2_with fail
  refine (F.cmpy _).mono ?_
  rintro e w' ⟨rfl, rfl⟩
  go_wp2_with fail
  refine (F.floor _).mono ?_
  rintro e w' ⟨rfl, rfl⟩
  go_wp2_with fail
  refine (F.exact _).mono ?_
  rintro e w' ⟨rfl, rfl⟩
  go_wp2_with fail
  refine (lives_any _).mono ?_
  rintro e w' ⟨rfl, rfl⟩
  go_wp2_with fail
  go_ret
  exact ⟨rfl, rfl⟩
theorem lawNear_any (n m : Int) (w : World) (n1 : -9223372036854775808 ≤ n) (n2 : n ≤ 9223372036854775807) (m1 : -9223372036854775808 ≤ m) (m2 : m ≤ 9223372036854775807) :
    Calls Try.prog 5 #[.int .i64 n, .int .i64 m] w fun e w' => e = .returned (.bool true) ∧ w = w' := by
  obtain ⟨x, y, x', y', f, c, d, b, F⟩ := near_facts n m n1 n2 m1 m2
  rcases Int.lt_trichotomy m n with h | h | h <;> cases b
  · exact lawNear_false_lt n m w h F
  · exact lawNear_true_lt n m w h F
  · exact lawNear_false_eq n m w h F
  · exact lawNear_true_eq n m w h F
  · exact lawNear_false_gt n m w h F
  · exact lawNear_true_gt n m w h F
end Go.Proofs.Ytadnehnhgnfclaa
