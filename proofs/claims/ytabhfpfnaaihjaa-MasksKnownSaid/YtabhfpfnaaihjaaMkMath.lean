/-
  DERIVED. MASKS AS LISTS OF CODES, the last place first: how many numbers, which, in which order. No program.
-/
namespace Go.Proofs.Ytabhfpfnaaihjaa

/-- how many numbers -/
def cnt : List Nat → Nat
  | [] => 1
  | c :: r => (if c = 88 then 10 else 1) * cnt r
/-- the number with an index -/
def nth : List Nat → Nat → Nat
  | [], _ => 0
  | c :: r, i => if c = 88 then i % 10 + 10 * nth r (i / 10) else (c - 48) + 10 * nth r i
/-- are the last places of n those of the mask? -/
def fits : List Nat → Nat → Bool
  | [], _ => true
  | c :: r, n => (c == 88 || c - 48 == n % 10) && fits r (n / 10)
def hasN (l : List Nat) (n : Nat) : Bool := fits l n && n / 10 ^ l.length == 0
/-- the index of a number -/
def idx : List Nat → Nat → Nat
  | [], _ => 0
  | c :: r, n => if c = 88 then n % 10 + 10 * idx r (n / 10) else idx r (n / 10)
def Dm (l : List Nat) : Prop := ∀ c ∈ l, c = 88 ∨ 48 ≤ c ∧ c ≤ 57

theorem cnt_append (a b : List Nat) : cnt (a ++ b) = cnt a * cnt b := by
  induction a with
  | nil => simp [cnt]
  | cons c r ih => simp only [List.cons_append, cnt, ih, Nat.mul_assoc]
theorem cnt_reverse (l : List Nat) : cnt l.reverse = cnt l := by
  induction l with
  | nil => rfl
  | cons c r ih => rw [List.reverse_cons, cnt_append, ih]; simp only [cnt, Nat.mul_one]; rw [Nat.mul_comm]
theorem cnt_pos (l : List Nat) : 0 < cnt l := by
  induction l with
  | nil => decide
  | cons c r ih => simp only [cnt]; split <;> omega
theorem cnt_le (l : List Nat) : cnt l ≤ 10 ^ l.length := by
  induction l with
  | nil => decide
  | cons c r ih => simp only [cnt, List.length_cons, Nat.pow_succ]; split <;> omega
theorem nth_append (a b : List Nat) : ∀ i, nth (a ++ b) i = nth a i + 10 ^ a.length * nth b (i / cnt a) := by
  induction a with
  | nil => intro i; simp [nth, cnt]
  | cons c r ih =>
    intro i
    simp only [List.cons_append, nth, cnt, List.length_cons, Nat.pow_succ]
    by_cases h : c = 88
    · simp only [h, if_true]
      rw [ih, Nat.mul_add, ← Nat.div_div_eq_div_mul, Nat.add_assoc, ← Nat.mul_assoc, Nat.mul_comm 10 (10 ^ r.length)]
    · simp only [h, if_false, Nat.one_mul]
      rw [ih, Nat.mul_add, Nat.add_assoc, ← Nat.mul_assoc, Nat.mul_comm 10 (10 ^ r.length)]
theorem Dm.tail {c : Nat} {r : List Nat} (h : Dm (c :: r)) : Dm r := fun x hx => h x (List.mem_cons_of_mem _ hx)
theorem Dm.head {c : Nat} {r : List Nat} (h : Dm (c :: r)) : c = 88 ∨ 48 ≤ c ∧ c ≤ 57 := h c List.mem_cons_self
theorem nth_lt {l : List Nat} (h : Dm l) : ∀ i, nth l i < 10 ^ l.length := by
  induction l with
  | nil => intro i; simp [nth]
  | cons c r ih =>
    intro i
    have hc := h.head
    simp only [nth, List.length_cons, Nat.pow_succ]
    split
    · have := ih h.tail (i / 10); omega
    · have := ih h.tail i; omega
theorem nth_mono {l : List Nat} : ∀ i k, i < k → k < cnt l → nth l i < nth l k := by
  induction l with
  | nil => intro i k h1 h2; simp only [cnt] at h2; omega
  | cons c r ih =>
    intro i k h1 h2
    simp only [nth]
    simp only [cnt] at h2
    by_cases h : c = 88
    · simp only [h, if_true] at h2 ⊢
      by_cases e : i / 10 = k / 10
      · rw [e]; omega
      · have := ih (i / 10) (k / 10) (by omega) (by omega)
        omega
    · simp only [h, if_false, Nat.one_mul] at h2 ⊢
      have := ih i k h1 h2
      omega
theorem nth_has {l : List Nat} (h : Dm l) : ∀ i, i < cnt l → fits l (nth l i) = true := by
  induction l with
  | nil => intro i _; rfl
  | cons c r ih =>
    intro i hi
    have hc := h.head
    simp only [cnt] at hi
    simp only [fits, nth]
    by_cases e : c = 88
    · simp only [e, if_true] at hi ⊢
      have h1 : (i % 10 + 10 * nth r (i / 10)) / 10 = nth r (i / 10) := by omega
      rw [h1, ih h.tail (i / 10) (by omega)]; rfl
    · simp only [e, if_false, Nat.one_mul] at hi ⊢
      have h1 : (c - 48 + 10 * nth r i) / 10 = nth r i := by omega
      have h2 : (c - 48 + 10 * nth r i) % 10 = c - 48 := by omega
      rw [h1, h2, ih h.tail i hi]; simp
theorem has_idx {l : List Nat} : ∀ n, fits l n = true → n / 10 ^ l.length = 0 → Dm l → idx l n < cnt l ∧ nth l (idx l n) = n := by
  induction l with
  | nil => intro n _ h2 _; simp only [List.length_nil, Nat.pow_zero, Nat.div_one] at h2; subst h2; exact ⟨by decide, rfl⟩
  | cons c r ih =>
    intro n h1 h2 hd
    simp only [fits, Bool.and_eq_true, Bool.or_eq_true, beq_iff_eq] at h1
    rw [List.length_cons, Nat.pow_succ, Nat.mul_comm, ← Nat.div_div_eq_div_mul] at h2
    obtain ⟨i1, i2⟩ := ih (n / 10) h1.2 h2 hd.tail
    simp only [idx, cnt, nth]
    by_cases e : c = 88
    · simp only [e, if_true]
      have e1 : (n % 10 + 10 * idx r (n / 10)) / 10 = idx r (n / 10) := by omega
      have e2 : (n % 10 + 10 * idx r (n / 10)) % 10 = n % 10 := by omega
      rw [e1, e2, i2]
      omega
    · simp only [e, if_false, Nat.one_mul]
      have := h1.1.resolve_left e
      rw [i2]
      omega
theorem hasN_iff {l : List Nat} (h : Dm l) (n : Nat) : hasN l n = true ↔ ∃ i, i < cnt l ∧ nth l i = n := by
  unfold hasN
  constructor
  · intro c
    simp only [Bool.and_eq_true, beq_iff_eq] at c
    exact ⟨_, has_idx n c.1 c.2 h⟩
  · rintro ⟨i, hi, rfl⟩
    rw [nth_has h i hi, Nat.div_eq_of_lt (nth_lt h i)]; rfl
/-- how many numbers of the mask are below n -/
def Blw (l : List Nat) (n : Int) (b : Nat) : Prop := b ≤ cnt l ∧ (∀ i, i < b → (nth l i : Int) < n) ∧ (∀ i, b ≤ i → i < cnt l → n ≤ (nth l i : Int))
theorem blw_uniq {l : List Nat} {n : Int} {a b : Nat} (h : Blw l n a) (h' : Blw l n b) : a = b := by
  obtain ⟨a1, a2, a3⟩ := h
  obtain ⟨b1, b2, b3⟩ := h'
  rcases Nat.lt_trichotomy a b with c | c | c
  · have := b2 a c; have := a3 a (Nat.le_refl _) (by omega); omega
  · exact c
  · have := a2 b c; have := b3 b (Nat.le_refl _) (by omega); omega
/-- a place more -/
theorem cnt_snoc (t : List Nat) (c : Nat) : cnt (t ++ [c]) = cnt t * (if c = 88 then 10 else 1) := by rw [cnt_append]; simp [cnt]
theorem nth_snoc (t : List Nat) (c i : Nat) : nth (t ++ [c]) i = nth t i + 10 ^ t.length * (if c = 88 then i / cnt t % 10 else c - 48) := by
  rw [nth_append]; simp only [nth]; split <;> simp
theorem fits_snoc (t : List Nat) (c : Nat) : ∀ n, fits (t ++ [c]) n = (fits t n && (c == 88 || c - 48 == n / 10 ^ t.length % 10)) := by
  induction t with
  | nil => intro n; simp [fits]
  | cons d r ih =>
    intro n
    simp only [List.cons_append, fits, List.length_cons, Nat.pow_succ]
    rw [ih, Bool.and_assoc, Nat.mul_comm (10 ^ r.length) 10, ← Nat.div_div_eq_div_mul]
theorem fits_append (a b : List Nat) : ∀ n, fits (a ++ b) n = (fits a n && fits b (n / 10 ^ a.length)) := by
  induction a with
  | nil => intro n; simp [fits]
  | cons d r ih =>
    intro n
    simp only [List.cons_append, fits, List.length_cons, Nat.pow_succ]
    rw [ih, Bool.and_assoc, Nat.mul_comm (10 ^ r.length) 10, ← Nat.div_div_eq_div_mul]
theorem fits_take {l : List Nat} {j n : Nat} (h : fits (l.take j) n = false) : fits l n = false := by
  have := fits_append (l.take j) (l.drop j) n
  rw [List.take_append_drop, h] at this
  rw [this]; rfl
def hasI (l : List Nat) (n : Int) : Bool := decide (0 ≤ n) && hasN l n.toNat
theorem blw_exists (l : List Nat) (n : Int) : ∃ b, Blw l n b := by
  -- the first index whose number is not below n
  have key : ∀ k, k ≤ cnt l → ∃ b, b ≤ k ∧ (∀ i, i < b → (nth l i : Int) < n) ∧ (∀ i, b ≤ i → i < k → n ≤ (nth l i : Int)) := by
    intro k
    induction k with
    | zero => exact fun _ => ⟨0, by omega, by omega, by omega⟩
    | succ k ih =>
      intro hk
      obtain ⟨b, h1, h2, h3⟩ := ih (by omega)
      by_cases c : (nth l k : Int) < n
      · refine ⟨k + 1, by omega, fun i hi => ?_, by omega⟩
        by_cases e : i = k
        · rw [e]; exact c
        · have := @nth_mono l i k (by omega) (by omega); omega
      · refine ⟨b, by omega, h2, fun i hi1 hi2 => ?_⟩
        by_cases e : i = k
        · rw [e]; omega
        · exact h3 i hi1 (by omega)
  obtain ⟨b, h1, h2, h3⟩ := key (cnt l) (Nat.le_refl _)
  exact ⟨b, h1, h2, h3⟩
end Go.Proofs.Ytabhfpfnaaihjaa
