/-
  DERIVED. PLAIN MATHEMATICS of decimal digits, the least first. Nothing of the program.
-/
namespace Go.Proofs.YtbnlomjlapnoaaaDoor

/-- the digits of a number, the least first -/
def dg (n : Nat) : List Nat := if h : n = 0 then [] else n % 10 :: dg (n / 10)
termination_by n
decreasing_by omega
def vl : List Nat → Nat
  | [] => 0
  | d :: r => d + 10 * vl r
theorem dg_zero : dg 0 = [] := by unfold dg; simp
theorem dg_pos {n : Nat} (h : ¬ n = 0) : dg n = n % 10 :: dg (n / 10) := by rw [dg]; simp [h]
theorem vl_dg (n : Nat) : vl (dg n) = n := by
  induction n using Nat.strongRecOn with
  | _ n ih =>
    by_cases h : n = 0
    · subst h; rw [dg_zero]; rfl
    · rw [dg_pos h]; unfold vl; rw [ih (n / 10) (by omega)]; omega
theorem dg_le (n : Nat) : ∀ d ∈ dg n, d ≤ 9 := by
  induction n using Nat.strongRecOn with
  | _ n ih =>
    by_cases h : n = 0
    · subst h; rw [dg_zero]; simp
    · rw [dg_pos h]
      intro d hd
      rcases List.mem_cons.1 hd with rfl | hd
      · omega
      · exact ih (n / 10) (by omega) d hd
theorem dg_nil {n : Nat} : dg n = [] ↔ n = 0 := by
  constructor
  · intro h; have := vl_dg n; rw [h] at this; exact this.symm
  · rintro rfl; exact dg_zero
theorem vl_append (a b : List Nat) : vl (a ++ b) = vl a + 10 ^ a.length * vl b := by
  induction a with
  | nil => simp [vl]
  | cons d r ih => simp only [List.cons_append, vl, ih, List.length_cons, Nat.pow_succ]; rw [Nat.mul_add, Nat.add_assoc, ← Nat.mul_assoc, Nat.mul_comm 10 (10 ^ r.length)]
theorem vl_snoc (a : List Nat) (d : Nat) : vl (a ++ [d]) = vl a + 10 ^ a.length * d := by rw [vl_append]; simp [vl]
theorem vl_lt (l : List Nat) (h : ∀ d ∈ l, d ≤ 9) : vl l < 10 ^ l.length := by
  induction l with
  | nil => simp [vl]
  | cons d r ih =>
    have h1 := h d (by simp)
    have h2 := ih (fun x hx => h x (by simp [hx]))
    simp only [vl, List.length_cons, Nat.pow_succ]; omega
/-- a list of digits without zeros at the end is that of its value -/
theorem dg_vl (l : List Nat) (h : ∀ d ∈ l, d ≤ 9) (hl : ∀ a, l = a ++ [0] → False) : dg (vl l) = l := by
  induction l with
  | nil => exact dg_zero
  | cons d r ih =>
    have hd := h d (by simp)
    have h1 : ∀ a, r = a ++ [0] → False := fun a e => hl (d :: a) (by rw [e]; rfl)
    have h2 := ih (fun x hx => h x (by simp [hx])) h1
    have h3 : ¬ vl (d :: r) = 0 := by
      intro e
      unfold vl at e
      have e1 : d = 0 := by omega
      have e2 : vl r = 0 := by omega
      rw [e2, dg_zero] at h2
      exact hl [] (by rw [e1, ← h2]; rfl)
    rw [dg_pos h3]
    have h0 : vl (d :: r) = d + 10 * vl r := rfl
    have h4 : vl (d :: r) % 10 = d := by omega
    have h5 : vl (d :: r) / 10 = vl r := by omega
    rw [h4, h5, h2]
theorem vl_zero_snoc (a : List Nat) : vl (a ++ [0]) = vl a := by rw [vl_snoc]; simp
theorem dg_length_le (n k : Nat) (h : n < 10 ^ k) : (dg n).length ≤ k := by
  induction k generalizing n with
  | zero => have : n = 0 := by simpa using h
            rw [this, dg_zero]; simp
  | succ k ih =>
    by_cases e : n = 0
    · rw [e, dg_zero]; simp
    · rw [dg_pos e]
      have := ih (n / 10) (by rw [Nat.pow_succ] at h; omega)
      simp; omega
theorem dg_last (n : Nat) (a : List Nat) : dg n = a ++ [0] → False := by
  induction n using Nat.strongRecOn generalizing a with
  | _ n ih =>
    intro h
    by_cases e : n = 0
    · rw [e, dg_zero] at h; simp at h
    · rw [dg_pos e] at h
      cases a with
      | nil =>
        simp only [List.nil_append, List.cons.injEq] at h
        have := dg_nil.1 h.2
        omega
      | cons x t =>
        simp only [List.cons_append, List.cons.injEq] at h
        exact ih (n / 10) (by omega) t h.2
theorem pow_le_vl (l : List Nat) (h : ∀ a, l = a ++ [0] → False) (hl : ¬ l = []) : 10 ^ (l.length - 1) ≤ vl l := by
  induction l with
  | nil => exact absurd rfl hl
  | cons d r ih =>
    by_cases e : r = []
    · subst e
      have : ¬ d = 0 := fun z => h [] (by rw [z]; rfl)
      simp [vl]; omega
    · have := ih (fun a e => h (d :: a) (by rw [e]; rfl)) e
      have hp : r.length = (r.length - 1) + 1 := by cases r with | nil => exact absurd rfl e | cons _ _ => simp
      simp only [vl, List.length_cons, Nat.add_sub_cancel]
      rw [hp, Nat.pow_succ]; omega
/-- the digit at a place, 0 behind the last one -/
def at0 (l : List Nat) (i : Nat) : Nat := l.getD i 0
theorem vl_drop (l : List Nat) (i : Nat) : vl (l.drop i) = at0 l i + 10 * vl (l.drop (i + 1)) := by
  induction l generalizing i with
  | nil => simp [at0, vl]
  | cons d r ih =>
    cases i with
    | zero => simp [at0, vl]
    | succ i => simpa [at0] using ih i
theorem at0_le (l : List Nat) (h : ∀ d ∈ l, d ≤ 9) (i : Nat) : at0 l i ≤ 9 := by
  unfold at0
  rw [List.getD_eq_getElem?_getD]
  cases e : l[i]? with
  | none => simp
  | some d => exact h d (List.mem_of_getElem? e)
/-- canonical: digits, and no zero at the end -/
def Can (l : List Nat) : Prop := (∀ d ∈ l, d ≤ 9) ∧ ∀ a, l = a ++ [0] → False
theorem Can.dg (n : Nat) : Can (dg n) := ⟨dg_le n, dg_last n⟩
theorem Can.eq {l : List Nat} (h : Can l) : Go.Proofs.YtbnlomjlapnoaaaDoor.dg (vl l) = l := dg_vl l h.1 h.2
theorem less_len {a b : List Nat} (ha : Can a) (hb : Can b) (h : a.length < b.length) : vl a < vl b := by
  have h1 := vl_lt a ha.1
  have h2 := pow_le_vl b hb.2 (by rintro rfl; simp at h)
  have h3 : 10 ^ a.length ≤ 10 ^ (b.length - 1) := Nat.pow_le_pow_right (by decide) (by omega)
  omega
theorem vl_split (l : List Nat) (i : Nat) : vl l = vl (l.take i) + 10 ^ (l.take i).length * vl (l.drop i) := by
  rw [← vl_append, List.take_append_drop]
theorem less_at {a b : List Nat} (ha : Can a) (hl : a.length = b.length) (i : Nat) (hi : i < a.length) (hd : vl (a.drop (i + 1)) = vl (b.drop (i + 1))) (h : at0 a i < at0 b i) : vl a < vl b := by
  rw [vl_split a i, vl_split b i, vl_drop a i, vl_drop b i, hd]
  have e1 : (a.take i).length = i := by simp; omega
  have e2 : (b.take i).length = i := by simp; omega
  have h1 := vl_lt (a.take i) (fun d hd => ha.1 d (List.mem_of_mem_take hd))
  rw [e1] at h1 ⊢
  rw [e2]
  have h2 : 10 ^ i * (at0 a i + 1 + 10 * vl (b.drop (i + 1))) ≤ 10 ^ i * (at0 b i + 10 * vl (b.drop (i + 1))) := Nat.mul_le_mul_left _ (by omega)
  have h3 : 10 ^ i * (at0 a i + 1 + 10 * vl (b.drop (i + 1))) = 10 ^ i * (at0 a i + 10 * vl (b.drop (i + 1))) + 10 ^ i := by
    rw [show at0 a i + 1 + 10 * vl (b.drop (i + 1)) = at0 a i + 10 * vl (b.drop (i + 1)) + 1 from by omega, Nat.mul_add, Nat.mul_one]
  omega
end Go.Proofs.YtbnlomjlapnoaaaDoor
