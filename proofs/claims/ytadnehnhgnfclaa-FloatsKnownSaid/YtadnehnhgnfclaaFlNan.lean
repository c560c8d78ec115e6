/-
  DERIVED. CONTRACTS at a NaN whose bits may be drawn: math.Floor, Ceil; floats.Floor, Ceil, Cmp. The reference's Floor.
-/
import Derived.Test.YtadnehnhgnfclaaFlRefD
import Derived.Laws.NewFold
namespace Go.Proofs.Ytadnehnhgnfclaa
open Go.RowKit

theorem quiet_nan (s : Bool) (t : Nat) : isNan (FloatKind.f64.encode (.nan s (FloatKind.f64.format.quiet t))) = true := by
  show isNan (Ieee.double.word s (Ieee.double.infRung + (t ||| 2 ^ 51) % Ieee.double.binade)) = true
  have hbin : Ieee.double.binade = 2 ^ 52 := by decide
  have hinf : Ieee.double.infRung = 9218868437227405312 := by decide
  rw [word_dw, hbin, hinf]
  have h1 : (t ||| 2 ^ 51) % 2 ^ 52 < 2 ^ 52 := Nat.mod_lt _ (by decide)
  have h2 : (t ||| 2 ^ 51) % 2 ^ 52 ≠ 0 := by
    intro c
    have h3 : ((t ||| 2 ^ 51) % 2 ^ 52).testBit 51 = false := by rw [c]; simp
    rw [Nat.testBit_mod_two_pow, Nat.testBit_or, Nat.testBit_two_pow] at h3
    simp at h3
  generalize (t ||| 2 ^ 51) % 2 ^ 52 = z at *
  have h4 : (2 : Nat) ^ 52 = 4503599627370496 := by decide
  unfold isNan
  rw [dw_rung (by omega)]
  exact decide_eq_true (by omega)
theorem toIntegral_nan (name : String) (way : Ieee.Toward) (b : Nat) (w : World) (h : isNan b = true) :
    ∃ r w1, isNan r = true ∧ (w1 = w ∨ w1 = w.drew) ∧ (Extern.MathFloor.toIntegral name way #[.float .f64 b]).run Try.prog w = .ok (.float .f64 r) w1 := by
  have hd : FloatKind.f64.decode b = .nan (isNeg b) (rung b - 9218868437227405312) := read_nan h
  have hq := fun s t => quiet_nan s t
  unfold Extern.MathFloor.toIntegral
  show ∃ r w1, _ ∧ _ ∧ Sem.run _ (match FloatKind.f64.decode b with | .nan s t => _ | d => _) w = _
  rw [hd]
  generalize isNeg b = s at *
  generalize rung b - 9218868437227405312 = t at *
  show ∃ r w1, _ ∧ _ ∧ Sem.run _ (if FloatKind.f64.format.quiet t = t then _ else _) w = _
  by_cases c : FloatKind.f64.format.quiet t = t
  · rw [if_pos c]
    exact ⟨b, w, h, .inl rfl, rfl⟩
  · rw [if_neg c]
    simp only [Sem.run_bind, run_choose_drew]
    split
    · exact ⟨_, w, by rw [if_neg (by decide)]; exact hq _ _, .inl rfl, rfl⟩
    · refine ⟨_, w.drew, ?_, .inr rfl, rfl⟩
      split
      · exact h
      · exact hq _ _
theorem drew_below {w w1 : World} (h : w1 = w ∨ w1 = w.drew) : Below w.heap.size w w1 := by
  rcases h with rfl | rfl
  · exact Below.refl _ _
  · exact (Below.refl _ _).drew
/-- a function of one float that gives a NaN -/
def NanFloat (f : FuncId) (b : Nat) : Prop := ∀ w, Calls Try.prog f #[.float .f64 b] w fun e w' => ∃ r, isNan r = true ∧ e = .returned (.float .f64 r) ∧ Below w.heap.size w w'
theorem floor_nan {b : Nat} (h : isNan b = true) : NanFloat 42 b := by
  intro w
  obtain ⟨r, w1, h1, h2, h3⟩ := toIntegral_nan "math.archFloor" .down b w h
  have hF : (callFunc 49 #[.float .f64 b]).run Try.prog w = .ok (.value (.float .f64 r)) w1 := by
    rw [run_callFunc_extern (e := Extern.MathFloor.toIntegral "math.archFloor" .down) Try.func49 (by kernel_rfl) (by kernel_rfl) (by kernel_rfl) (by kernel_rfl), h3]
    rfl
  have HB := Kp.mk (And.intro h1 (drew_below h2))
  clear h h1 h2 h3
  go_enter Try.func42, Try.ntmps42
  go_wp2
  go_ret
  exact ⟨r, HB.out.1, rfl, HB.out.2⟩
theorem ceil_nan {b : Nat} (h : isNan b = true) : NanFloat 43 b := by
  intro w
  obtain ⟨r, w1, h1, h2, h3⟩ := toIntegral_nan "math.archCeil" .up b w h
  have hF : (callFunc 51 #[.float .f64 b]).run Try.prog w = .ok (.value (.float .f64 r)) w1 := by
    rw [run_callFunc_extern (e := Extern.MathFloor.toIntegral "math.archCeil" .up) Try.func51 (by kernel_rfl) (by kernel_rfl) (by kernel_rfl) (by kernel_rfl), h3]
    rfl
  have HB := Kp.mk (And.intro h1 (drew_below h2))
  clear h h1 h2 h3
  go_enter Try.func43, Try.ntmps43
  go_wp2
  go_ret
  exact ⟨r, HB.out.1, rfl, HB.out.2⟩
theorem whole_nan' {f b : Nat} (hf : IsRound f) (h : NanFloat f b) (w : World) :
    Calls Try.prog 41 #[.float .f64 b, .func (.func f) #[] #[]] w fun e w' => e = .returned (.tuple #[.int .i64 0, .int .i64 1]) ∧ Below w.heap.size w w' := by
  have H := Kp.mk h; clear h
  rcases hf with rfl | rfl
  all_goals
    go_enter Try.func41, Try.ntmps41
    go_wp2_with fail
    refine (H.out _).mono ?_
    rintro e w' ⟨r, hr, rfl, hb⟩
    have hN : (FloatKind.f64.format.order r r != some Ordering.eq) = true := by rw [ord_ne, fEq_self, hr]; rfl
    have HB := Kp.mk hb
    clear hr hb
    go_wp2
    go_ret2
    exact ⟨rfl, HB.out⟩
theorem fFloor_nan {b : Nat} (h : isNan b = true) (w : World) :
    Calls Try.prog 23 #[.float .f64 b] w fun e w' => e = .returned (.tuple #[.int .i64 0, .int .i64 1]) ∧ Below w.heap.size w w' := by
  have H := Kp.mk (whole_nan' (f := 42) (.inl rfl) (floor_nan h)); clear h
  go_enter Try.func23, Try.ntmps23
  go_wp2_with fail
  refine (H.out _).mono ?_
  rintro e w' ⟨rfl, hb⟩
  go_wp2
  go_ret2
  exact ⟨rfl, hb⟩
theorem fCeil_nan {b : Nat} (h : isNan b = true) (w : World) :
    Calls Try.prog 24 #[.float .f64 b] w fun e w' => e = .returned (.tuple #[.int .i64 0, .int .i64 1]) ∧ Below w.heap.size w w' := by
  have H := Kp.mk (whole_nan' (f := 43) (.inr rfl) (ceil_nan h)); clear h
  go_enter Try.func24, Try.ntmps24
  go_wp2_with fail
  refine (H.out _).mono ?_
  rintro e w' ⟨rfl, hb⟩
  go_wp2
  go_ret2
  exact ⟨rfl, hb⟩
theorem fCmp_nan {b : Nat} {n : Int} (h : isNan b = true) (w : World) :
    Calls Try.prog 22 #[.float .f64 b, .int .i64 n] w fun e w' => e = .returned (.tuple #[.int .i64 0, .int .i64 1]) ∧ Below w.heap.size w w' := by
  have H := Kp.mk (fFloor_nan h); clear h
  go_enter Try.func22, Try.ntmps22
  go_wp2_with fail
  refine (H.out _).mono ?_
  rintro e w' ⟨rfl, hb⟩
  go_wp2
  go_ret2
  exact ⟨rfl, hb⟩
set_option maxRecDepth 100000 in
set_option maxHeartbeats 1000000 in
theorem lawWhole_nan (x : Nat) (n : Int) (w : World) (h : isNan x = true) :
    Calls Try.prog 6 #[.float .f64 x, .int .i64 n] w fun e w' => e = .returned (.bool true) ∧ Below w.heap.size w w' := by
  have h1 := Kp.mk (fFloor_nan h)
  have h2 := Kp.mk (fCeil_nan h)
  have h3 := Kp.mk (fun w => fCmp_nan (n := n) h w)
  have hN : (FloatKind.f64.format.order x x != some Ordering.eq) = true := by rw [ord_ne, fEq_self, h]; rfl
  clear h
  go_enter Try.func6, Try.ntmps6
  go_wp2_with fail
  refine (h1.out _).mono ?_
  rintro e w1 ⟨rfl, hc⟩
  have hb1 := hc; clear hc
  go_wp2_with fail
  refine (h2.out _).mono ?_
  rintro e w2 ⟨rfl, hc⟩
  have hb2 := hb1.trans (hc.mono hb1.size); clear hc hb1
  go_wp2_with fail
  refine (h3.out _).mono ?_
  rintro e w3 ⟨rfl, hc⟩
  have hb3 := hb2.trans (hc.mono hb2.size); clear hc hb2
  go_wp2_with fail
  refine (lives_any _).mono ?_
  rintro e w4 ⟨rfl, rfl⟩
  go_wp2
  go_ret
  exact ⟨rfl, hb3⟩

/- THE REFERENCE's FLOOR -/
theorem lt_hi_num {x : Nat} (hx : isNan x = false) : fLt x 4890909195324358656 = decide (sV x < 9223372036854775808 * U) := by
  unfold fLt; rw [hx, show isNan 4890909195324358656 = false by decide]
  simp only [Bool.not_false, Bool.true_and]
  apply decide_eq_decide.2
  rw [← sV_lt, lim_hi]
theorem lt_lo_num {x : Nat} (hx : isNan x = false) : fLt x 14114281232179134464 = decide (sV x < -9223372036854775808 * U) := by
  unfold fLt; rw [hx, show isNan 14114281232179134464 = false by decide]
  simp only [Bool.not_false, Bool.true_and]
  apply decide_eq_decide.2
  rw [← sV_lt, lim_lo]
theorem refFloor_out {x : Nat} (w : World) (h : (FloatKind.f64.format.order x 4890909195324358656 == some Ordering.gt || FloatKind.f64.format.order x 4890909195324358656 == some Ordering.eq) = true ∨ (FloatKind.f64.format.order x 4890909195324358656 == some Ordering.gt || FloatKind.f64.format.order x 4890909195324358656 == some Ordering.eq) = false ∧ (FloatKind.f64.format.order x 14114281232179134464 == some Ordering.lt) = true) :
    Calls Try.prog 25 #[.float .f64 x] w fun e w' => e = .returned (.tuple #[.int .i64 0, .bool false]) ∧ w = w' := by
  rcases h with h1 | ⟨h1, h2⟩
  all_goals
    go_enter Try.func25, Try.ntmps25
    go_wp2
    go_ret2
    exact ⟨rfl, rfl⟩
/-- what the reference's Floor says, beside what the program says -/
theorem wholR_cases {way : Ieee.Toward} {x : Nat} (hx : isNan x = false) :
    (rung x ≠ 9218868437227405312 ∧ -9223372036854775808 ≤ sg (isNeg x) (whol way x) ∧ sg (isNeg x) (whol way x) ≤ 9223372036854775807 ∧ wholR way x = (sg (isNeg x) (whol way x), 0)) ∨
    (wholR way x = (0, 15) ∧ (rung x = 9218868437227405312 ∨ ¬ (-9223372036854775808 ≤ sg (isNeg x) (whol way x) ∧ sg (isNeg x) (whol way x) ≤ 9223372036854775807))) := by
  unfold wholR
  rw [hx]
  simp only [Bool.false_eq_true, if_false]
  by_cases hi : rung x = 9218868437227405312
  · rw [if_pos hi]; exact .inr ⟨rfl, .inl hi⟩
  · rw [if_neg hi]
    by_cases h : -9223372036854775808 ≤ sg (isNeg x) (whol way x) ∧ sg (isNeg x) (whol way x) ≤ 9223372036854775807
    · rw [if_pos h]; exact .inl ⟨hi, h.1, h.2, rfl⟩
    · rw [if_neg h]; exact .inr ⟨rfl, .inr h⟩
theorem refFloor_is {x : Nat} {f : Int} {b : Bool} (w : World) (hx : isNan x = false) (h : wholR .down x = (f, if b then 0 else 15)) :
    Calls Try.prog 25 #[.float .f64 x] w fun e w' => e = .returned (.tuple #[.int .i64 f, .bool b]) ∧ w = w' := by
  obtain ⟨p1, p2⟩ := floor_prop x
  have e1 : (FloatKind.f64.format.order x 4890909195324358656 == some Ordering.gt || FloatKind.f64.format.order x 4890909195324358656 == some Ordering.eq) = !decide (sV x < 9223372036854775808 * U) := by
    rw [fGe _ _ hx (by decide), lt_hi_num hx]
  have e2 : (FloatKind.f64.format.order x 14114281232179134464 == some Ordering.lt) = decide (sV x < -9223372036854775808 * U) := by rw [ord_lt, lt_lo_num hx]
  rcases wholR_cases (way := .down) hx with ⟨c0, c1, c2, c3⟩ | ⟨c3, c4⟩
  · rw [c3] at h
    simp only [Prod.mk.injEq] at h
    obtain ⟨hf, hb⟩ := h
    have hb' : b = true := by cases b
                              · simp at hb
                              · rfl
    subst hb'
    rw [hf] at p1 p2 c1 c2
    refine refFloor_in w hx p1 p2 c1 c2 ?_ ?_
    · rw [e1]
      have := mulU_le (show f + 1 ≤ 9223372036854775808 by omega)
      rw [decide_eq_true (by omega)]; rfl
    · rw [e2]
      have := mulU_le c1
      exact decide_eq_false (by omega)
  · rw [c3] at h
    simp only [Prod.mk.injEq] at h
    obtain ⟨hf, hb⟩ := h
    have hb' : b = false := by cases b
                               · rfl
                               · simp at hb
    subst hb'
    subst hf
    refine refFloor_out w ?_
    rw [e1, e2]
    have hdec : ¬ sV x < 9223372036854775808 * U ∨ sV x < -9223372036854775808 * U := by
      rcases c4 with c4 | c4
      · rw [sV_inf c4, mulU_lt, mulU_lt]
        have := top_big
        unfold sg
        generalize 2 ^ top = z at *
        cases isNeg x
        · left; simp only [Bool.false_eq_true, if_false]; omega
        · right; simp only [if_true]; omega
      · generalize sg (isNeg x) (whol .down x) = F at *
        by_cases hlo : F < -9223372036854775808
        · right
          have := mulU_le (show F + 1 ≤ -9223372036854775808 by omega)
          omega
        · left
          have := mulU_le (show 9223372036854775808 ≤ F by omega)
          omega
    by_cases g : sV x < 9223372036854775808 * U
    · right
      have := hdec.resolve_left (fun c => c g)
      simp [g, this]
    · left; simp [g]
end Go.Proofs.Ytadnehnhgnfclaa
