/-
  DERIVED. THE WALK of the statement on texts of numbers.
-/
import Derived.Test.YtadnehnhgnfclaaDoorRefText
import Derived.Test.YtadnehnhgnfclaaDoorLives
namespace Go.Proofs.YtadnehnhgnfclaaDoor
open Go.RowKit

theorem valM_append (a b : List UInt8) : ∀ acc, valM acc (a ++ b) = valM (valM acc a) b := by
  induction a with
  | nil => intro acc; rfl
  | cons x t ih => intro acc; exact ih _
theorem valM_one (acc : Nat) (c : UInt8) : valM acc [c] = acc * 10 + (c.toNat - 48) := rfl
theorem digit_nat (d : Nat) (h : d ≤ 9) : (UInt8.ofNat (48 + d)).toNat = 48 + d := by
  rw [UInt8.toNat_ofNat']; omega
/-- the text of a number is a text, and says the number -/
theorem valM_map (l : List Nat) (h : ∀ d ∈ l, d ≤ 9) : valM 0 (l.reverse.map fun d => UInt8.ofNat (48 + d)) = vl l := by
  induction l with
  | nil => rfl
  | cons d r ih =>
    have hd := h d (by simp)
    have hr := ih (fun x hx => h x (by simp [hx]))
    rw [List.reverse_cons, List.map_append, valM_append, hr]
    show valM (vl r) [UInt8.ofNat (48 + d)] = d + 10 * vl r
    rw [valM_one, digit_nat d hd]
    omega
theorem itoa_pos (n : Nat) (h : 0 < n) : (dg n).reverse.map (fun d => UInt8.ofNat (48 + d)) ≠ [] ∧ valM 0 ((dg n).reverse.map fun d => UInt8.ofNat (48 + d)) = n ∧ (∀ c ∈ (dg n).reverse.map (fun d => UInt8.ofNat (48 + d)), dig c) ∧ ∀ c r, (dg n).reverse.map (fun d => UInt8.ofNat (48 + d)) = c :: r → ¬ c.toNat = 48 := by
  refine ⟨?_, ?_, ?_, ?_⟩
  · intro e
    have : dg n = [] := by simpa using e
    have := dg_nil.1 this; omega
  · rw [valM_map _ (dg_le n), vl_dg]
  · intro c hc
    simp only [List.mem_map, List.mem_reverse] at hc
    obtain ⟨d, hd, rfl⟩ := hc
    have := dg_le n d hd
    have e := digit_nat d this
    unfold dig; rw [e]; omega
  · intro c r e
    rcases List.eq_nil_or_concat (dg n) with g | ⟨a, d, g⟩
    · have := dg_nil.1 g; omega
    · rw [g] at e
      simp only [List.concat_eq_append, List.reverse_append, List.reverse_cons, List.reverse_nil, List.nil_append, List.cons_append, List.map_cons, List.cons.injEq] at e
      have hd : ¬ d = 0 := fun z => dg_last n a (by rw [g, z, List.concat_eq_append])
      have hl := dg_le n d (by rw [g]; simp)
      rw [← e.1]
      have e2 := digit_nat d hl
      omega
theorem itoa_form (n : Int) : Form (Lib.itoa n) ∧ textVal (Lib.itoa n) = n ∧ (Lib.itoa n).length ≤ 1 + (dg n.natAbs).length + 1 := by
  by_cases h0 : n = 0
  · subst h0
    have : Lib.itoa 0 = [48] := by unfold Lib.itoa; rw [if_neg (by decide), Lib.decDigits]; rfl
    rw [this]
    exact ⟨.inl rfl, by decide, by simp⟩
  · have hp := itoa_pos n.natAbs (by omega)
    obtain ⟨h1, h2, h3, h4⟩ := hp
    have hlen : ((dg n.natAbs).reverse.map fun d => UInt8.ofNat (48 + d)).length = (dg n.natAbs).length := by simp
    unfold Lib.itoa
    by_cases hn : n < 0
    · rw [if_pos hn, decDigits_dg _ (by omega)]
      generalize (dg n.natAbs).reverse.map (fun d => UInt8.ofNat (48 + d)) = L at *
      cases L with
      | nil => exact absurd rfl h1
      | cons c r =>
        refine ⟨.inr ⟨c, r, .inr rfl, h4 c r rfl, h3⟩, ?_, by simp at hlen ⊢; omega⟩
        rw [textVal_minus, h2]; omega
    · rw [if_neg hn, show n.toNat = n.natAbs from by omega, decDigits_dg _ (by omega)]
      generalize (dg n.natAbs).reverse.map (fun d => UInt8.ofNat (48 + d)) = L at *
      cases L with
      | nil => exact absurd rfl h1
      | cons c r =>
        have hc := h3 c (by simp)
        unfold dig at hc
        refine ⟨.inr ⟨c, r, .inl rfl, h4 c r rfl, h3⟩, ?_, by simp at hlen ⊢; omega⟩
        rw [textVal_plain c r (by omega), h2]; omega

set_option maxRecDepth 100000 in
set_option maxHeartbeats 1000000 in
theorem lawText_any (n : Int) (w : World) (hw : Laid w) (h0 : -9223372036854775808 ≤ n) (h1 : n ≤ 9223372036854775807) :
    Calls Tryd.prog 6 #[.int .i64 n] w fun e w' => e = .returned (.bool true) ∧ Below w.heap.size w w' := by
  have HW := Lib.hid hw; clear hw
  obtain ⟨hf, hv, hl⟩ := itoa_form n
  have hlen := dg_length_le n.natAbs 19 (by omega)
  have hp := fun w1 => parse_in ⟨(Lib.itoa n).toArray⟩ w1 (by simp [ByteArray.size]; omega) (by simpa using hf) (by show -9223372036854775808 ≤ textVal (Lib.itoa n); rw [hv]; exact h0) (by show textVal (Lib.itoa n) ≤ 9223372036854775807; rw [hv]; exact h1)
  have hv2 : textVal (ByteArray.mk (Lib.itoa n).toArray).data.toList = n := hv
  rw [hv2] at hp
  have HP := Lib.hid hp; clear hp
  clear hf hv hl hv2
  go_enter Tryd.func6, Tryd.ntmps6
  go_wp2_with fail
  refine (text_any n _ HW.out h0 h1).mono ?_
  rintro e w1 ⟨rfl, hb1⟩
  generalize hT : (Lib.itoa n).toArray = T at *
  go_wp2_with fail
  refine (HP.out _).mono ?_
  rintro e w2 ⟨rfl, hc⟩
  have hb2 := hb1.trans (hc.mono hb1.size); clear hc hb1
  go_wp2_with fail
  refine (of_any n _ h0 h1).mono ?_
  rintro e w3 ⟨⟨a, cap, rfl, hd, _⟩, hc⟩
  have hb3 := hb2.trans (hc.mono hb2.size); clear hc hb2
  have HD := Lib.hid hd; clear hd
  go_wp2_with fail
  refine (ref_text n _ _ HD.out (by omega)).mono ?_
  rw [hT]
  rintro e w4 ⟨rfl, hc⟩
  have hb4 := hb3.trans (hc.mono hb3.size); clear hc hb3
  clear hT
  go_wp2_with fail
  refine (gives_same _ _).mono ?_
  rintro e w' ⟨rfl, rfl⟩
  go_wp2_with fail
  refine (lives_any _ (HW.out.below hb4)).mono ?_
  rintro e w5 ⟨rfl, hc⟩
  have hb5 := hb4.trans (hc.mono hb4.size); clear hc hb4
  go_wp2_with fail
  go_ret
  exact ⟨rfl, hb5⟩
end Go.Proofs.YtadnehnhgnfclaaDoor
