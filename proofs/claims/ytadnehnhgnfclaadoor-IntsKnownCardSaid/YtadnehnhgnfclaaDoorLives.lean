/-
  DERIVED. CONTRACTS of the statements' own functions: fails, gives, lives.
-/
import Derived.Test.YtadnehnhgnfclaaDoorMul
import Derived.Test.YtadnehnhgnfclaaDoorTxt
namespace Go.Proofs.YtadnehnhgnfclaaDoor
open Go.RowKit

theorem to_below {f : FuncId} {args : Array Value} {w : World} {v : Value} (h : Calls Tryd.prog f args w fun e w' => e = .returned v ∧ w = w') : Calls Tryd.prog f args w fun e w' => e = .returned v ∧ Below w.heap.size w w' :=
  h.mono fun _ _ ⟨g, k⟩ => ⟨g, by rw [← k]; exact Below.refl _ _⟩
theorem dig_all {l : List UInt8} (h : l.all (fun b => decide (48 ≤ b.toNat ∧ b.toNat ≤ 57)) = true) : ∀ x ∈ l, dig x := fun x hx => of_decide_eq_true (p := 48 ≤ x.toNat ∧ x.toNat ≤ 57) (List.all_eq_true.1 h x hx)

def failsB (n e want : Int) : Bool := decide (n = 0) && decide (e = want)
def givesB (n e want : Int) : Bool := decide (n = want) && decide (e = 0)

set_option maxHeartbeats 400000 in
theorem fails_is {n e want : Int} {b : Bool} (h : failsB n e want = b) (w : World) :
    Calls Tryd.prog 21 #[.int .i64 n, .int .i64 e, .int .i64 want] w fun e w' => e = .returned (.bool b) ∧ w = w' := by
  by_cases h1 : n = 0
  · have g1 : (n == 0) = true := by simp [h1]
    have h2 : (e == want) = b := by rw [← h]; unfold failsB; rw [decide_eq_true h1]; by_cases h3 : e = want <;> simp [h3]
    have H2 := Lib.hid h2; clear h2 h
    have H1 := Lib.hid h1; clear h1
    go_enter Tryd.func21, Tryd.ntmps21
    go_wp2_with fail
    go_ret
    exact ⟨ret_bool H2.out, rfl⟩
  · have g1 : (n == 0) = false := by simp [h1]
    have h2 : false = b := by rw [← h]; unfold failsB; rw [decide_eq_false h1]; rfl
    have H2 := Lib.hid h2; clear h2 h
    go_enter Tryd.func21, Tryd.ntmps21
    go_wp2_with fail
    go_ret
    exact ⟨ret_bool H2.out, rfl⟩

set_option maxHeartbeats 400000 in
theorem gives_is {n e want : Int} {b : Bool} (h : givesB n e want = b) (w : World) :
    Calls Tryd.prog 17 #[.int .i64 n, .int .i64 e, .int .i64 want] w fun e w' => e = .returned (.bool b) ∧ w = w' := by
  by_cases h1 : n = want
  · have g1 : (n == want) = true := by simp [h1]
    have h2 : (e == 0) = b := by rw [← h]; unfold givesB; rw [decide_eq_true h1]; by_cases h3 : e = 0 <;> simp [h3]
    have H2 := Lib.hid h2; clear h2 h
    have H1 := Lib.hid h1; clear h1
    go_enter Tryd.func17, Tryd.ntmps17
    go_wp2_with fail
    go_ret
    exact ⟨ret_bool H2.out, rfl⟩
  · have g1 : (n == want) = false := by simp [h1]
    have h2 : false = b := by rw [← h]; unfold givesB; rw [decide_eq_false h1]; rfl
    have H2 := Lib.hid h2; clear h2 h
    go_enter Tryd.func17, Tryd.ntmps17
    go_wp2_with fail
    go_ret
    exact ⟨ret_bool H2.out, rfl⟩
theorem fails_same (e : Int) (w : World) : Calls Tryd.prog 21 #[.int .i64 0, .int .i64 e, .int .i64 e] w fun x w' => x = .returned (.bool true) ∧ w = w' := fails_is (by simp [failsB]) w
theorem gives_same (n : Int) (w : World) : Calls Tryd.prog 17 #[.int .i64 n, .int .i64 0, .int .i64 n] w fun x w' => x = .returned (.bool true) ∧ w = w' := gives_is (by simp [givesB]) w
theorem lv1 (w : World) : Calls Tryd.prog 10 #[.int .i64 9223372036854775807, .int .i64 1] w fun e w' => e = .returned (two 0 15) ∧ Below w.heap.size w w' := add_out _ _ w (by decide) (by decide) (by decide) (by decide) (by decide)
theorem lv2 (w : World) : Calls Tryd.prog 11 #[.int .i64 (-9223372036854775808), .int .i64 1] w fun e w' => e = .returned (two 0 15) ∧ Below w.heap.size w w' := sub_out _ _ w (by decide) (by decide) (by decide) (by decide) (by decide)
theorem lv3 (w : World) : Calls Tryd.prog 12 #[.int .i64 4294967296, .int .i64 2147483648] w fun e w' => e = .returned (two 0 15) ∧ Below w.heap.size w w' := mul_out _ _ w (by decide) (by decide) (by decide) (by decide) (by decide)
theorem lv4 (w : World) : Calls Tryd.prog 21 #[.int .i64 0, .int .i64 15, .int .i64 15] w fun e w' => e = .returned (.bool true) ∧ Below w.heap.size w w' := to_below (fails_is rfl w)
theorem lv7 (w : World) : Calls Tryd.prog 19 #[.int .i64 (-7), .int .i64 2] w fun e w' => e = .returned (two (-4) 0) ∧ Below w.heap.size w w' := to_below (div_any (-7) 2 w (by decide) (by decide) (by decide) (by decide))
theorem lv8 (w : World) : Calls Tryd.prog 20 #[.int .i64 (-7), .int .i64 2] w fun e w' => e = .returned (two 1 0) ∧ Below w.heap.size w w' := to_below (mod_any (-7) 2 w (by decide) (by decide) (by decide) (by decide) (by decide))
theorem lv9 (w : World) : Calls Tryd.prog 19 #[.int .i64 7, .int .i64 (-2)] w fun e w' => e = .returned (two (-4) 0) ∧ Below w.heap.size w w' := to_below (div_any 7 (-2) w (by decide) (by decide) (by decide) (by decide))
theorem lv10 (w : World) : Calls Tryd.prog 20 #[.int .i64 7, .int .i64 (-2)] w fun e w' => e = .returned (two (-1) 0) ∧ Below w.heap.size w w' := to_below (mod_any 7 (-2) w (by decide) (by decide) (by decide) (by decide) (by decide))
theorem lv11 (w : World) : Calls Tryd.prog 17 #[.int .i64 (-4), .int .i64 0, .int .i64 (-4)] w fun e w' => e = .returned (.bool true) ∧ Below w.heap.size w w' := to_below (gives_is rfl w)
theorem lv12 (w : World) : Calls Tryd.prog 17 #[.int .i64 1, .int .i64 0, .int .i64 1] w fun e w' => e = .returned (.bool true) ∧ Below w.heap.size w w' := to_below (gives_is rfl w)
theorem lv14 (w : World) : Calls Tryd.prog 17 #[.int .i64 (-1), .int .i64 0, .int .i64 (-1)] w fun e w' => e = .returned (.bool true) ∧ Below w.heap.size w w' := to_below (gives_is rfl w)
theorem lv15 (w : World) : Calls Tryd.prog 19 #[.int .i64 1, .int .i64 0] w fun e w' => e = .returned (two 0 1) ∧ Below w.heap.size w w' := to_below (div_zero 1 w)
theorem lv16 (w : World) : Calls Tryd.prog 20 #[.int .i64 (-9223372036854775808), .int .i64 (-1)] w fun e w' => e = .returned (two 0 0) ∧ Below w.heap.size w w' := to_below (mod_any (-9223372036854775808) (-1) w (by decide) (by decide) (by decide) (by decide) (by decide))
theorem lv17 (w : World) : Calls Tryd.prog 23 #[.int .i64 18] w fun e w' => e = .returned (two 1000000000000000000 0) ∧ Below w.heap.size w w' := to_below (pow10_any 18 w (by decide))
theorem lv18 (w : World) : Calls Tryd.prog 23 #[.int .i64 19] w fun e w' => e = .returned (two 0 15) ∧ Below w.heap.size w w' := to_below (pow10_much 19 w (by decide))
theorem lv19 (w : World) : Calls Tryd.prog 21 #[.int .i64 0, .int .i64 1, .int .i64 1] w fun e w' => e = .returned (.bool true) ∧ Below w.heap.size w w' := to_below (fails_is rfl w)
theorem lv20 (w : World) : Calls Tryd.prog 17 #[.int .i64 0, .int .i64 0, .int .i64 0] w fun e w' => e = .returned (.bool true) ∧ Below w.heap.size w w' := to_below (gives_is rfl w)
theorem lv21 (w : World) : Calls Tryd.prog 17 #[.int .i64 1000000000000000000, .int .i64 0, .int .i64 1000000000000000000] w fun e w' => e = .returned (.bool true) ∧ Below w.heap.size w w' := to_below (gives_is rfl w)
theorem lv23 (w : World) : Calls Tryd.prog 24 #[.int .i64 (-12), .int .i64 18] w fun e w' => e = .returned (two 6 0) ∧ Below w.heap.size w w' := gcd_any _ _ w 6 0 (by decide) (by decide) (by decide) (by decide) (fun w1 => signed_fits_pos 6 (by decide) (by decide) w1)
theorem lv24 (w : World) : Calls Tryd.prog 24 #[.int .i64 0, .int .i64 0] w fun e w' => e = .returned (two 0 0) ∧ Below w.heap.size w w' := gcd_any _ _ w 0 0 (by decide) (by decide) (by decide) (by decide) (fun w1 => signed_fits_pos 0 (by decide) (by decide) w1)
theorem lv25 (w : World) : Calls Tryd.prog 26 #[.string ⟨#[45, 57, 50, 50, 51, 51, 55, 50, 48, 51, 54, 56, 53, 52, 55, 55, 53, 56, 48, 56]⟩] w fun e w' => e = .returned (two (-9223372036854775808) 0) ∧ Below w.heap.size w w' := parse_in ⟨#[45, 57, 50, 50, 51, 51, 55, 50, 48, 51, 54, 56, 53, 52, 55, 55, 53, 56, 48, 56]⟩ w (by decide) (.inr ⟨57, [50, 50, 51, 51, 55, 50, 48, 51, 54, 56, 53, 52, 55, 55, 53, 56, 48, 56], .inr rfl, by decide, dig_all (by decide)⟩) (by decide) (by decide)
theorem lv26 (w : World) (hw : Laid w) : Calls Tryd.prog 26 #[.string ⟨#[57, 50, 50, 51, 51, 55, 50, 48, 51, 54, 56, 53, 52, 55, 55, 53, 56, 48, 56]⟩] w fun e w' => e = .returned (two 0 15) ∧ Below w.heap.size w w' := parse_out ⟨#[57, 50, 50, 51, 51, 55, 50, 48, 51, 54, 56, 53, 52, 55, 55, 53, 56, 48, 56]⟩ w hw (by decide) (.inr ⟨57, [50, 50, 51, 51, 55, 50, 48, 51, 54, 56, 53, 52, 55, 55, 53, 56, 48, 56], .inl rfl, by decide, dig_all (by decide)⟩) (by decide)
theorem lv27 (w : World) : Calls Tryd.prog 26 #[.string ⟨#[45, 48]⟩] w fun e w' => e = .returned (two 0 5) ∧ Below w.heap.size w w' := parse_no ⟨#[45, 48]⟩ w (by decide) (by decide)
theorem lv28 (w : World) : Calls Tryd.prog 26 #[.string ⟨#[48, 48, 55]⟩] w fun e w' => e = .returned (two 0 5) ∧ Below w.heap.size w w' := parse_no ⟨#[48, 48, 55]⟩ w (by decide) (by decide)
theorem lv29 (w : World) : Calls Tryd.prog 17 #[.int .i64 6, .int .i64 0, .int .i64 6] w fun e w' => e = .returned (.bool true) ∧ Below w.heap.size w w' := to_below (gives_is rfl w)
theorem lv31 (w : World) : Calls Tryd.prog 17 #[.int .i64 (-9223372036854775808), .int .i64 0, .int .i64 (-9223372036854775808)] w fun e w' => e = .returned (.bool true) ∧ Below w.heap.size w w' := to_below (gives_is rfl w)
theorem lv33 (w : World) : Calls Tryd.prog 21 #[.int .i64 0, .int .i64 5, .int .i64 5] w fun e w' => e = .returned (.bool true) ∧ Below w.heap.size w w' := to_below (fails_is rfl w)

set_option maxRecDepth 100000 in
set_option maxHeartbeats 2000000 in
theorem lives_any (w : World) (hw : Laid w) :
    Calls Tryd.prog 18 #[] w fun e w' => e = .returned (.bool true) ∧ Below w.heap.size w w' := by
  have HW := Lib.hid hw; clear hw
  go_enter Tryd.func18, Tryd.ntmps18
  go_wp2_with fail
  refine (lv1 _).mono ?_
  rintro e w1 ⟨rfl, hc⟩
  have hb1 := hc; clear hc
  go_wp2_with fail
  refine (lv2 _).mono ?_
  rintro e w2 ⟨rfl, hc⟩
  have hb2 := hb1.trans (hc.mono hb1.size); clear hc hb1
  go_wp2_with fail
  refine (lv3 _).mono ?_
  rintro e w3 ⟨rfl, hc⟩
  have hb3 := hb2.trans (hc.mono hb2.size); clear hc hb2
  go_wp2_with fail
  refine (lv4 _).mono ?_
  rintro e w4 ⟨rfl, hc⟩
  have hb4 := hb3.trans (hc.mono hb3.size); clear hc hb3
  go_wp2_with fail
  refine (lv4 _).mono ?_
  rintro e w5 ⟨rfl, hc⟩
  have hb5 := hb4.trans (hc.mono hb4.size); clear hc hb4
  go_wp2_with fail
  refine (lv4 _).mono ?_
  rintro e w6 ⟨rfl, hc⟩
  have hb6 := hb5.trans (hc.mono hb5.size); clear hc hb5
  go_wp2_with fail
  refine (lv7 _).mono ?_
  rintro e w7 ⟨rfl, hc⟩
  have hb7 := hb6.trans (hc.mono hb6.size); clear hc hb6
  go_wp2_with fail
  refine (lv8 _).mono ?_
  rintro e w8 ⟨rfl, hc⟩
  have hb8 := hb7.trans (hc.mono hb7.size); clear hc hb7
  go_wp2_with fail
  refine (lv9 _).mono ?_
  rintro e w9 ⟨rfl, hc⟩
  have hb9 := hb8.trans (hc.mono hb8.size); clear hc hb8
  go_wp2_with fail
  refine (lv10 _).mono ?_
  rintro e w10 ⟨rfl, hc⟩
  have hb10 := hb9.trans (hc.mono hb9.size); clear hc hb9
  go_wp2_with fail
  refine (lv11 _).mono ?_
  rintro e w11 ⟨rfl, hc⟩
  have hb11 := hb10.trans (hc.mono hb10.size); clear hc hb10
  go_wp2_with fail
  refine (lv12 _).mono ?_
  rintro e w12 ⟨rfl, hc⟩
  have hb12 := hb11.trans (hc.mono hb11.size); clear hc hb11
  go_wp2_with fail
  refine (lv11 _).mono ?_
  rintro e w13 ⟨rfl, hc⟩
  have hb13 := hb12.trans (hc.mono hb12.size); clear hc hb12
  go_wp2_with fail
  refine (lv14 _).mono ?_
  rintro e w14 ⟨rfl, hc⟩
  have hb14 := hb13.trans (hc.mono hb13.size); clear hc hb13
  go_wp2_with fail
  refine (lv15 _).mono ?_
  rintro e w15 ⟨rfl, hc⟩
  have hb15 := hb14.trans (hc.mono hb14.size); clear hc hb14
  go_wp2_with fail
  refine (lv16 _).mono ?_
  rintro e w16 ⟨rfl, hc⟩
  have hb16 := hb15.trans (hc.mono hb15.size); clear hc hb15
  go_wp2_with fail
  refine (lv17 _).mono ?_
  rintro e w17 ⟨rfl, hc⟩
  have hb17 := hb16.trans (hc.mono hb16.size); clear hc hb16
  go_wp2_with fail
  refine (lv18 _).mono ?_
  rintro e w18 ⟨rfl, hc⟩
  have hb18 := hb17.trans (hc.mono hb17.size); clear hc hb17
  go_wp2_with fail
  refine (lv19 _).mono ?_
  rintro e w19 ⟨rfl, hc⟩
  have hb19 := hb18.trans (hc.mono hb18.size); clear hc hb18
  go_wp2_with fail
  refine (lv20 _).mono ?_
  rintro e w20 ⟨rfl, hc⟩
  have hb20 := hb19.trans (hc.mono hb19.size); clear hc hb19
  go_wp2_with fail
  refine (lv21 _).mono ?_
  rintro e w21 ⟨rfl, hc⟩
  have hb21 := hb20.trans (hc.mono hb20.size); clear hc hb20
  go_wp2_with fail
  refine (lv4 _).mono ?_
  rintro e w22 ⟨rfl, hc⟩
  have hb22 := hb21.trans (hc.mono hb21.size); clear hc hb21
  go_wp2_with fail
  refine (lv23 _).mono ?_
  rintro e w23 ⟨rfl, hc⟩
  have hb23 := hb22.trans (hc.mono hb22.size); clear hc hb22
  go_wp2_with fail
  refine (lv24 _).mono ?_
  rintro e w24 ⟨rfl, hc⟩
  have hb24 := hb23.trans (hc.mono hb23.size); clear hc hb23
  go_wp2_with fail
  refine (lv25 _).mono ?_
  rintro e w25 ⟨rfl, hc⟩
  have hb25 := hb24.trans (hc.mono hb24.size); clear hc hb24
  go_wp2_with fail
  refine (lv26 _ (HW.out.below hb25)).mono ?_
  rintro e w26 ⟨rfl, hc⟩
  have hb26 := hb25.trans (hc.mono hb25.size); clear hc hb25
  go_wp2_with fail
  refine (lv27 _).mono ?_
  rintro e w27 ⟨rfl, hc⟩
  have hb27 := hb26.trans (hc.mono hb26.size); clear hc hb26
  go_wp2_with fail
  refine (lv28 _).mono ?_
  rintro e w28 ⟨rfl, hc⟩
  have hb28 := hb27.trans (hc.mono hb27.size); clear hc hb27
  go_wp2_with fail
  refine (lv29 _).mono ?_
  rintro e w29 ⟨rfl, hc⟩
  have hb29 := hb28.trans (hc.mono hb28.size); clear hc hb28
  go_wp2_with fail
  refine (lv20 _).mono ?_
  rintro e w30 ⟨rfl, hc⟩
  have hb30 := hb29.trans (hc.mono hb29.size); clear hc hb29
  go_wp2_with fail
  refine (lv31 _).mono ?_
  rintro e w31 ⟨rfl, hc⟩
  have hb31 := hb30.trans (hc.mono hb30.size); clear hc hb30
  go_wp2_with fail
  refine (lv4 _).mono ?_
  rintro e w32 ⟨rfl, hc⟩
  have hb32 := hb31.trans (hc.mono hb31.size); clear hc hb31
  go_wp2_with fail
  refine (lv33 _).mono ?_
  rintro e w33 ⟨rfl, hc⟩
  have hb33 := hb32.trans (hc.mono hb32.size); clear hc hb32
  go_wp2_with fail
  refine (lv33 _).mono ?_
  rintro e w34 ⟨rfl, hc⟩
  have hb34 := hb33.trans (hc.mono hb33.size); clear hc hb33
  go_wp2_with fail
  go_ret
  exact ⟨rfl, hb34⟩
end Go.Proofs.YtadnehnhgnfclaaDoor
