/-
  DERIVED. Texts of numbers have the form, and their values. In namespace R1. Written off XLawText.
-/
import Derived.Test.YtbnlomjlapnoaaaDoorR1RefText
import Derived.Test.YtbnlomjlapnoaaaDoorDec
namespace Go.Proofs.YtbnlomjlapnoaaaDoor.R1
open Go.RowKit

theorem valM_append (a b : List UInt8) : ∀ acc, valM acc (a ++ b) = valM (valM acc a) b := by
  induction a with
  | nil => intro acc; rfl
  | cons x t ih => intro acc; exact ih _
theorem valM_one (acc : Nat) (c : UInt8) : valM acc [c] = acc * 10 + (c.toNat - 48) := rfl
theorem digit_nat (d : Nat) (h : d ≤ 9) : (UInt8.ofNat (48 + d)).toNat = 48 + d := by
  rw [UInt8.toNat_ofNat']; omega
/-- the text of a number is a text, and says the number -/
theorem valM_map (l : List Nat) (h : ∀ d ∈ l, d ≤ 9) : valM 0 (l.reverse.map fun d => UInt8.ofNat (48 + d)) = vl l := by
  induction l with
  | nil => rfl
  | cons d r ih =>
    have hd := h d (by simp)
    have hr := ih (fun x hx => h x (by simp [hx]))
    rw [List.reverse_cons, List.map_append, valM_append, hr]
    show valM (vl r) [UInt8.ofNat (48 + d)] = d + 10 * vl r
    rw [valM_one, digit_nat d hd]
    omega
theorem itoa_pos (n : Nat) (h : 0 < n) : (dg n).reverse.map (fun d => UInt8.ofNat (48 + d)) ≠ [] ∧ valM 0 ((dg n).reverse.map fun d => UInt8.ofNat (48 + d)) = n ∧ (∀ c ∈ (dg n).reverse.map (fun d => UInt8.ofNat (48 + d)), dig c) ∧ ∀ c r, (dg n).reverse.map (fun d => UInt8.ofNat (48 + d)) = c :: r → ¬ c.toNat = 48 := by
  refine ⟨?_, ?_, ?_, ?_⟩
  · intro e
    have : dg n = [] := by simpa using e
    have := dg_nil.1 this; omega
  · rw [valM_map _ (dg_le n), vl_dg]
  · intro c hc
    simp only [List.mem_map, List.mem_reverse] at hc
    obtain ⟨d, hd, rfl⟩ := hc
    have := dg_le n d hd
    have e := digit_nat d this
    unfold dig; rw [e]; omega
  · intro c r e
    rcases List.eq_nil_or_concat (dg n) with g | ⟨a, d, g⟩
    · have := dg_nil.1 g; omega
    · rw [g] at e
      simp only [List.concat_eq_append, List.reverse_append, List.reverse_cons, List.reverse_nil, List.nil_append, List.cons_append, List.map_cons, List.cons.injEq] at e
      have hd : ¬ d = 0 := fun z => dg_last n a (by rw [g, z, List.concat_eq_append])
      have hl := dg_le n d (by rw [g]; simp)
      rw [← e.1]
      have e2 := digit_nat d hl
      omega
theorem itoa_form (n : Int) : Form (Lib.itoa n) ∧ textVal (Lib.itoa n) = n ∧ (Lib.itoa n).length ≤ 1 + (dg n.natAbs).length + 1 := by
  by_cases h0 : n = 0
  · subst h0
    have : Lib.itoa 0 = [48] := by unfold Lib.itoa; rw [if_neg (by decide), Lib.decDigits]; rfl
    rw [this]
    exact ⟨.inl rfl, by decide, by simp⟩
  · have hp := itoa_pos n.natAbs (by omega)
    obtain ⟨h1, h2, h3, h4⟩ := hp
    have hlen : ((dg n.natAbs).reverse.map fun d => UInt8.ofNat (48 + d)).length = (dg n.natAbs).length := by simp
    unfold Lib.itoa
    by_cases hn : n < 0
    · rw [if_pos hn, decDigits_dg _ (by omega)]
      generalize (dg n.natAbs).reverse.map (fun d => UInt8.ofNat (48 + d)) = L at *
      cases L with
      | nil => exact absurd rfl h1
      | cons c r =>
        refine ⟨.inr ⟨c, r, .inr rfl, h4 c r rfl, h3⟩, ?_, by simp at hlen ⊢; omega⟩
        rw [textVal_minus, h2]; omega
    · rw [if_neg hn, show n.toNat = n.natAbs from by omega, decDigits_dg _ (by omega)]
      generalize (dg n.natAbs).reverse.map (fun d => UInt8.ofNat (48 + d)) = L at *
      cases L with
      | nil => exact absurd rfl h1
      | cons c r =>
        have hc := h3 c (by simp)
        unfold dig at hc
        refine ⟨.inr ⟨c, r, .inl rfl, h4 c r rfl, h3⟩, ?_, by simp at hlen ⊢; omega⟩
        rw [textVal_plain c r (by omega), h2]; omega

end Go.Proofs.YtbnlomjlapnoaaaDoor.R1
