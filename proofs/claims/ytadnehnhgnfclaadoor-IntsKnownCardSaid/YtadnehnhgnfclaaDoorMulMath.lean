/-
  DERIVED. ARITHMETIC of the reference's product: digits of a row that is written over.
-/
import Derived.Test.YtadnehnhgnfclaaDoorNum
namespace Go.Proofs.YtadnehnhgnfclaaDoor

theorem at0_lt {l : List Nat} {i : Nat} (h : i < l.length) : at0 l i = l[i] := by
  unfold at0; rw [List.getD_eq_getElem?_getD, List.getElem?_eq_getElem h]; rfl
theorem at0_set (l : List Nat) (j i d : Nat) (hj : j < l.length) : at0 (l.set j d) i = if i = j then d else at0 l i := by
  unfold at0
  rw [List.getD_eq_getElem?_getD, List.getD_eq_getElem?_getD, List.getElem?_set]
  by_cases h : j = i
  · subst h; simp [hj]
  · rw [if_neg h, if_neg (fun e => h e.symm)]
theorem vl_set (l : List Nat) (j d : Nat) (hj : j < l.length) : vl (l.set j d) + 10 ^ j * at0 l j = vl l + 10 ^ j * d := by
  induction l generalizing j with
  | nil => simp at hj
  | cons x t ih =>
    cases j with
    | zero => simp [vl, at0]; omega
    | succ j =>
      have h := ih j (by simpa using hj)
      have e : at0 (x :: t) (j + 1) = at0 t j := by unfold at0; rfl
      rw [e, List.set_cons_succ, vl, vl, Nat.pow_succ]
      generalize at0 t j = y at *
      generalize 10 ^ j = p at *
      have e1 : p * 10 * y = 10 * (p * y) := by rw [Nat.mul_comm p 10, Nat.mul_assoc]
      have e2 : p * 10 * d = 10 * (p * d) := by rw [Nat.mul_comm p 10, Nat.mul_assoc]
      rw [e1, e2]
      omega
theorem vl_take_succ (l : List Nat) (i : Nat) (hi : i < l.length) : vl (l.take (i + 1)) = vl (l.take i) + 10 ^ i * at0 l i := by
  rw [List.take_add_one, List.getElem?_eq_getElem hi, at0_lt hi]
  show vl (l.take i ++ [l[i]]) = _
  rw [vl_snoc, List.length_take, Nat.min_eq_left (by omega)]
theorem vl_take_behind (l : List Nat) (i : Nat) (hi : l.length ≤ i) : vl (l.take i) = vl l := by rw [List.take_of_length_le hi]
theorem at0_small (l : List Nat) (k j : Nat) (h : vl l < 10 ^ k) (hj : k ≤ j) : at0 l j = 0 := by
  by_cases hl : j < l.length
  · have h1 := vl_split l j
    have h2 := vl_drop l j
    rw [List.length_take, Nat.min_eq_left (by omega)] at h1
    apply Nat.eq_zero_of_not_pos
    intro hp
    have h3 : 10 ^ k ≤ 10 ^ j := Nat.pow_le_pow_right (by omega) hj
    have h4 : 10 ^ j * 1 ≤ 10 ^ j * vl (l.drop j) := Nat.mul_le_mul_left _ (by omega)
    omega
  · unfold at0; rw [List.getD_eq_getElem?_getD, List.getElem?_eq_none (by omega)]; rfl
/-- the row of a product after some rounds of the inner loop -/
structure MulIn (A B L0 : List Nat) (i k c : Nat) (L : List Nat) : Prop where
  len : L.length = A.length + B.length + 1
  nine : ∀ d ∈ L, d ≤ 9
  carry : c ≤ 9
  turn : k ≤ B.length ∨ (k = B.length + 1 ∧ c = 0)
  tail : ∀ j, i + k ≤ j → at0 L j = at0 L0 j
  val : vl L + 10 ^ (i + k) * c = vl L0 + 10 ^ i * (at0 A i * vl (B.take k))
/-- the row after some rounds of the outer loop -/
structure MulOut (A B : List Nat) (i : Nat) (L : List Nat) : Prop where
  len : L.length = A.length + B.length + 1
  nine : ∀ d ∈ L, d ≤ 9
  small : i ≤ A.length
  val : vl L = vl (A.take i) * vl B
theorem MulOut.start (A B : List Nat) : MulOut A B 0 (List.replicate (A.length + B.length + 1) 0) :=
  ⟨by simp, by intro d hd; rw [List.eq_of_mem_replicate hd]; omega, by omega, by
    have : ∀ n, vl (List.replicate n 0) = 0 := by
      intro n
      induction n with
      | zero => rfl
      | succ n ih => rw [List.replicate_succ, vl, ih]
    rw [this]; simp [vl]⟩
theorem MulOut.inner {A B L : List Nat} {i : Nat} (h : MulOut A B i L) : MulIn A B L i 0 0 L :=
  ⟨h.len, h.nine, by omega, .inl (by omega), fun _ _ => rfl, by simp [vl]⟩
theorem MulOut.zero {A B L : List Nat} {i : Nat} (h : MulOut A B i L) (ha : ∀ d ∈ A, d ≤ 9) (hb : ∀ d ∈ B, d ≤ 9) (j : Nat) (hj : i + B.length ≤ j) : at0 L j = 0 := by
  refine at0_small L (i + B.length) j ?_ hj
  rw [h.val, Nat.pow_add]
  have h1 := vl_lt (A.take i) (fun d hd => ha d (List.mem_of_mem_take hd))
  rw [List.length_take, Nat.min_eq_left h.small] at h1
  have h2 := vl_lt B hb
  exact Nat.mul_lt_mul_of_lt_of_lt h1 h2
theorem MulIn.sum {A B L0 L : List Nat} {i k c : Nat} (h : MulIn A B L0 i k c L) (ho : MulOut A B i L0) (ha : ∀ d ∈ A, d ≤ 9) (hb : ∀ d ∈ B, d ≤ 9) (hi : i < A.length) (hk : k < B.length ∨ 0 < c) :
    k ≤ B.length ∧ i + k < A.length + B.length + 1 ∧ at0 L (i + k) + at0 A i * at0 B k + c ≤ 99 ∧ (B.length ≤ k → at0 L (i + k) + at0 A i * at0 B k + c ≤ 9) := by
  have hkb : k ≤ B.length := by rcases h.turn with h1 | ⟨h1, h2⟩ <;> omega
  have h1 := at0_le L h.nine (i + k)
  have h2 := at0_le A ha i
  have h3 := at0_le B hb k
  have h4 : at0 A i * at0 B k ≤ 9 * 9 := Nat.mul_le_mul h2 h3
  have h5 := h.carry
  refine ⟨hkb, by omega, by omega, fun hb2 => ?_⟩
  have h6 : at0 L (i + k) = 0 := by rw [h.tail _ (Nat.le_refl _)]; exact ho.zero ha hb _ (by omega)
  have h7 : at0 B k = 0 := by unfold at0; rw [List.getD_eq_getElem?_getD, List.getElem?_eq_none hb2]; rfl
  rw [h6, h7]; omega
theorem MulIn.step {A B L0 L : List Nat} {i k c : Nat} (h : MulIn A B L0 i k c L) (ho : MulOut A B i L0) (ha : ∀ d ∈ A, d ≤ 9) (hb : ∀ d ∈ B, d ≤ 9) (hi : i < A.length) (hk : k < B.length ∨ 0 < c) :
    MulIn A B L0 i (k + 1) ((at0 L (i + k) + at0 A i * at0 B k + c) / 10) (L.set (i + k) ((at0 L (i + k) + at0 A i * at0 B k + c) % 10)) := by
  obtain ⟨h1, h2, h3, h4⟩ := h.sum ho ha hb hi hk
  have hlt : i + k < L.length := by rw [h.len]; omega
  refine ⟨by rw [List.length_set]; exact h.len, ?_, by omega, ?_, ?_, ?_⟩
  · intro d hd
    rcases List.mem_or_eq_of_mem_set hd with h5 | h5
    · exact h.nine d h5
    · omega
  · by_cases hb2 : k < B.length
    · exact .inl (by omega)
    · exact .inr ⟨by omega, by have := h4 (by omega); omega⟩
  · intro j hj
    rw [at0_set _ _ _ _ hlt, if_neg (by omega)]
    exact h.tail j (by omega)
  · have hs := vl_set L (i + k) ((at0 L (i + k) + at0 A i * at0 B k + c) % 10) hlt
    have hv := h.val
    have ht : vl (B.take (k + 1)) = vl (B.take k) + 10 ^ k * at0 B k := by
      by_cases hb2 : k < B.length
      · exact vl_take_succ B k hb2
      · have h7 : at0 B k = 0 := by unfold at0; rw [List.getD_eq_getElem?_getD, List.getElem?_eq_none (by omega)]; rfl
        rw [h7, vl_take_behind B _ (by omega), vl_take_behind B k (by omega)]; rfl
    rw [ht, ← Nat.add_assoc i k 1, Nat.pow_succ, Nat.mul_add (at0 A i), Nat.mul_add (10 ^ i), ← Nat.add_assoc, ← hv]
    have e1 : 10 ^ i * (at0 A i * (10 ^ k * at0 B k)) = 10 ^ (i + k) * (at0 A i * at0 B k) := by
      rw [Nat.pow_add, Nat.mul_left_comm (at0 A i), Nat.mul_assoc]
    rw [e1]
    generalize at0 A i * at0 B k = m at *
    generalize at0 L (i + k) = y at *
    generalize 10 ^ (i + k) = p at *
    generalize vl (L.set (i + k) ((y + m + c) % 10)) = V at *
    have e2 : p * 10 * ((y + m + c) / 10) = p * (10 * ((y + m + c) / 10)) := Nat.mul_assoc _ _ _
    have e3 : p * (10 * ((y + m + c) / 10)) + p * ((y + m + c) % 10) = p * y + p * m + p * c := by
      rw [← Nat.mul_add, Nat.div_add_mod, Nat.mul_add, Nat.mul_add]
    rw [e2]
    omega
theorem MulIn.done {A B L0 L : List Nat} {i k : Nat} (h : MulIn A B L0 i k 0 L) (ho : MulOut A B i L0) (hi : i < A.length) (hk : B.length ≤ k) : MulOut A B (i + 1) L := by
  refine ⟨h.len, h.nine, hi, ?_⟩
  have hv := h.val
  rw [Nat.mul_zero, Nat.add_zero, vl_take_behind B k hk, ho.val] at hv
  rw [hv, vl_take_succ A i hi, Nat.add_mul, Nat.mul_assoc]
theorem MulOut.done {A B L : List Nat} (h : MulOut A B A.length L) : vl L = vl A * vl B := by
  rw [h.val, List.take_length]
end Go.Proofs.YtadnehnhgnfclaaDoor
