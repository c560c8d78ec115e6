/-
  DERIVED. MASKS FROM THE FIRST PLACE ON: prefixes, the least and the greatest number, the nearest one. No program.
-/
import Derived.Test.YtabhfpfnaaihjaaMkDgB
import Derived.Test.YtabhfpfnaaihjaaMkNext
namespace Go.Proofs.Ytabhfpfnaaihjaa
open Go.RowKit

/-- the first places, the last of them first -/
def pre (s : ByteArray) (k : Nat) : List Nat := ((fwd s).take k).reverse
theorem pre_zero (s : ByteArray) : pre s 0 = [] := rfl
theorem pre_succ {s : ByteArray} {k : Nat} (h : k < s.size) : pre s (k + 1) = cd s k :: pre s k := by
  unfold pre
  rw [fwd_snoc h, List.reverse_append, cd_at h]; rfl
theorem pre_all (s : ByteArray) : pre s s.size = codes s := by unfold pre codes; rw [fwd_all]
theorem pre_len {s : ByteArray} {k : Nat} (h : k ≤ s.size) : (pre s k).length = k := by unfold pre; rw [List.length_reverse, List.length_take, fwd_len, Nat.min_eq_left h]
theorem cd_ok {s : ByteArray} (hs : Mk s) {k : Nat} (h : k < s.size) : cd s k = 88 ∨ 48 ≤ cd s k ∧ cd s k ≤ 57 := by rw [cd_at h]; exact hs.code h
theorem pre_ok {s : ByteArray} (hs : Mk s) (k : Nat) : Dm (pre s k) := fun c hc => by
  have h1 : c ∈ codes s := by
    unfold codes
    unfold pre at hc
    rw [List.mem_reverse] at hc ⊢
    exact List.mem_of_mem_take hc
  exact hs.ok c h1
theorem hasN_cons (c : Nat) (r : List Nat) (n : Nat) : hasN (c :: r) n = ((c == 88 || c - 48 == n % 10) && hasN r (n / 10)) := by
  unfold hasN
  simp only [fits, List.length_cons, Nat.pow_succ]
  rw [Bool.and_assoc, Nat.mul_comm, ← Nat.div_div_eq_div_mul]
/-- a digit at a place is that of the mask -/
theorem ok_fl {c g : Nat} : (c == 88 || c - 48 == g) = true ↔ fl c g = g := by
  unfold fl
  by_cases e : c = 88
  · simp [e]
  · simp [e]
theorem fl_le {c g : Nat} (h : c = 88 ∨ 48 ≤ c ∧ c ≤ 57) (hg : g ≤ 9) : fl c g ≤ 9 := by
  unfold fl; split <;> omega
theorem fl_fl (c g : Nat) : fl c (fl c g) = fl c g := by unfold fl; split <;> rfl
/-- what a prefix has -/
theorem has_pre {s : ByteArray} : ∀ (k : Nat), k ≤ s.size → ∀ x, hasN (pre s k) x = true → ∀ j, j ≤ k → hasN (pre s j) (x / 10 ^ (k - j)) = true := by
  intro k
  induction k with
  | zero => intro _ x hx j hj; obtain rfl : j = 0 := by omega
            rw [Nat.sub_self, Nat.pow_zero, Nat.div_one]; exact hx
  | succ k ih =>
    intro hk x hx j hj
    by_cases e : j = k + 1
    · subst e; simpa using hx
    · rw [pre_succ (by omega), hasN_cons, Bool.and_eq_true] at hx
      have := ih (by omega) (x / 10) hx.2 j (by omega)
      rw [Nat.div_div_eq_div_mul, Nat.mul_comm, ← Nat.pow_succ, show (k - j).succ = k + 1 - j by omega] at this
      exact this
theorem has_digit {s : ByteArray} {k : Nat} (hk : k < s.size) {x : Nat} (hx : hasN (pre s (k + 1)) x = true) : fl (cd s k) (x % 10) = x % 10 := by
  rw [pre_succ hk, hasN_cons, Bool.and_eq_true] at hx
  exact ok_fl.1 hx.1
/-- digits that all are those of the mask make a number of it -/
theorem has_vl {s : ByteArray} {f : Nat → Nat} (h9 : ∀ k, f k ≤ 9) : ∀ (k : Nat), k ≤ s.size → (∀ j, j < k → fl (cd s j) (f j) = f j) → hasN (pre s k) (vlF f k) = true := by
  intro k
  induction k with
  | zero => intro _ _; simp [pre, hasN, fits, vlF]
  | succ k ih =>
    intro hk hj
    rw [pre_succ (by omega), hasN_cons, Bool.and_eq_true]
    have h := h9 k
    have e1 : vlF f (k + 1) % 10 = f k := by simp only [vlF]; omega
    have e2 : vlF f (k + 1) / 10 = vlF f k := by simp only [vlF]; omega
    rw [e1, e2]
    exact ⟨ok_fl.2 (hj k (by omega)), ih (by omega) fun j h => hj j (by omega)⟩
/-- the least number -/
theorem least_vl {s : ByteArray} {f : Nat → Nat} : ∀ (k : Nat), k ≤ s.size → (∀ j, j < k → f j = fl (cd s j) 0) → vlF f k = nth (pre s k) 0 := by
  intro k
  induction k with
  | zero => intro _ _; rfl
  | succ k ih =>
    intro hk hj
    rw [pre_succ (by omega)]
    simp only [vlF, nth]
    rw [ih (by omega) (fun j h => hj j (by omega)), hj k (by omega)]
    unfold fl
    by_cases e : cd s k = 88
    · simp [e]
    · simp [e]; omega
theorem greatest_vl {s : ByteArray} {f : Nat → Nat} : ∀ (k : Nat), k ≤ s.size → (∀ j, j < k → f j = fl (cd s j) 9) → vlF f k = nth (pre s k) (cnt (pre s k) - 1) := by
  intro k
  induction k with
  | zero => intro _ _; rfl
  | succ k ih =>
    intro hk hj
    have hp := cnt_pos (pre s k)
    rw [pre_succ (by omega)]
    simp only [vlF, nth, cnt]
    rw [ih (by omega) (fun j h => hj j (by omega)), hj k (by omega)]
    unfold fl
    by_cases e : cd s k = 88
    · simp only [e, if_true]
      have e1 : (10 * cnt (pre s k) - 1) % 10 = 9 := by omega
      have e2 : (10 * cnt (pre s k) - 1) / 10 = cnt (pre s k) - 1 := by omega
      rw [e1, e2]; omega
    · simp only [e, if_false, Nat.one_mul]; omega
/-- the prefixes of a number by its digits -/
theorem vlF_dg {n L : Nat} (hn : n < 10 ^ L) : ∀ k, k ≤ L → vlF (dgF n L 0) k = n / 10 ^ (L - k) := by
  intro k
  induction k with
  | zero => intro _; rw [Nat.sub_zero, Nat.div_eq_of_lt hn]; rfl
  | succ k ih =>
    intro hk
    simp only [vlF]
    rw [ih (by omega)]
    unfold dgF
    rw [if_pos (by omega), show L - 1 - k = L - (k + 1) by omega]
    have e : n / 10 ^ (L - k) = n / 10 ^ (L - (k + 1)) / 10 := by rw [div_pow_succ]; congr 2; omega
    rw [e]; omega
theorem vlF_congr {f g : Nat → Nat} : ∀ k, (∀ j, j < k → f j = g j) → vlF f k = vlF g k
  | 0, _ => rfl
  | k + 1, h => by simp only [vlF]; rw [vlF_congr k fun j hj => h j (by omega), h k (by omega)]
end Go.Proofs.Ytabhfpfnaaihjaa
