/-
  DERIVED. THE NEAREST NUMBER OF A MASK, place by place. No program. (The lower half is the upper one turned.)
-/
import Derived.Test.YtabhfpfnaaihjaaMkDgM
namespace Go.Proofs.Ytabhfpfnaaihjaa
open Go.RowKit

theorem dg_at {n L k : Nat} (hk : k < L) : dgF n L 0 k = n / 10 ^ (L - (k + 1)) % 10 := by unfold dgF; rw [if_pos (by omega), show L - 1 - k = L - (k + 1) by omega]
theorem dgF_le {n L : Nat} (j : Nat) : dgF n L 0 j ≤ 9 := by unfold dgF; split <;> omega
theorem vl_div {f : Nat → Nat} (h : ∀ k, f k ≤ 9) {j : Nat} : ∀ {m : Nat}, j ≤ m → vlF f m / 10 ^ (m - j) = vlF f j := by
  intro m
  induction m with
  | zero => intro hj
            obtain rfl : j = 0 := by omega
            simp [vlF]
  | succ m ih =>
    intro hj
    by_cases e : j = m + 1
    · subst e; simp
    · rw [show m + 1 - j = (m - j) + 1 by omega, Nat.pow_succ, Nat.mul_comm, ← Nat.div_div_eq_div_mul]
      have := h m
      rw [show vlF f (m + 1) / 10 = vlF f m by simp only [vlF]; omega]
      exact ih (by omega)

/-- every number of the mask that is more than n is more already by its first k places -/
def UpAt (s : ByteArray) (n k : Nat) : Prop := ∀ x, hasN (codes s) x = true → n < x → n / 10 ^ (s.size - k) < x / 10 ^ (s.size - k)
theorem up_start {s : ByteArray} {n c : Nat} (hc : c < s.size) (hb : ¬ fl (cd s c) (dgF n s.size 0 c) = dgF n s.size 0 c) : UpAt s n (c + 1) := by
  intro x hx hn
  have h1 : n / 10 ^ (s.size - (c + 1)) ≤ x / 10 ^ (s.size - (c + 1)) := Nat.div_le_div_right (by omega)
  by_cases e : n / 10 ^ (s.size - (c + 1)) = x / 10 ^ (s.size - (c + 1))
  · exfalso
    apply hb
    have h2 := has_pre s.size (Nat.le_refl _) x (by rw [pre_all]; exact hx) (c + 1) (by omega)
    have h3 := has_digit hc h2
    rw [← e, ← dg_at hc] at h3
    exact h3
  · omega
theorem up_step {s : ByteArray} {n k : Nat} (hk : k < s.size) (h : UpAt s n (k + 1)) (hno : ∀ g, dgF n s.size 0 k < g → g ≤ 9 → ¬ fl (cd s k) g = g) : UpAt s n k := by
  intro x hx hn
  have h0 := h x hx hn
  have h2 := has_pre s.size (Nat.le_refl _) x (by rw [pre_all]; exact hx) (k + 1) (by omega)
  have h3 := has_digit hk h2
  have e1 : n / 10 ^ (s.size - k) = n / 10 ^ (s.size - (k + 1)) / 10 := by rw [div_pow_succ]; congr 2; omega
  have e2 : x / 10 ^ (s.size - k) = x / 10 ^ (s.size - (k + 1)) / 10 := by rw [div_pow_succ]; congr 2; omega
  rw [e1, e2]
  have hd := dg_at (n := n) hk
  have := hno (x / 10 ^ (s.size - (k + 1)) % 10)
  generalize x / 10 ^ (s.size - (k + 1)) = X at *
  generalize n / 10 ^ (s.size - (k + 1)) = N at *
  by_cases e : N / 10 < X / 10
  · exact e
  · exact absurd h3 (this (by rw [hd]; omega) (by omega))
theorem up_zero {s : ByteArray} {n x : Nat} (h : UpAt s n 0) (hx : hasN (codes s) x = true) (hn : n < x) : False := by
  have h1 := h x hx hn
  have h2 := has_pre s.size (Nat.le_refl _) x (by rw [pre_all]; exact hx) 0 (by omega)
  rw [pre_zero] at h2
  have h3 : x / 10 ^ (s.size - 0) = 0 := by
    unfold hasN at h2
    simpa [fits] using h2
  rw [h3] at h1
  exact Nat.not_lt_zero _ h1
/-- the digits of the number found: those of n, then g, then the least ones -/
def upF (s : ByteArray) (n k g : Nat) (j : Nat) : Nat := if j < k then dgF n s.size 0 j else if j = k then g else if j < s.size then fl (cd s j) 0 else 0
theorem upF_le {s : ByteArray} (hs : Mk s) {n k g : Nat} (hg : g ≤ 9) (j : Nat) : upF s n k g j ≤ 9 := by
  unfold upF
  split
  · exact dgF_le j
  · split
    · exact hg
    · split
      · exact fl_le (cd_ok hs ‹_›) (by omega)
      · omega
structure UpR (s : ByteArray) (n u : Nat) : Prop where
  has : hasN (codes s) u = true
  at_ : n ≤ u
  least : ∀ x, hasN (codes s) x = true → n ≤ x → u ≤ x
theorem UpR.uniq {s : ByteArray} {n u v : Nat} (h : UpR s n u) (g : UpR s n v) : u = v := Nat.le_antisymm (h.least v g.has g.at_) (g.least u h.has h.at_)
theorem up_found {s : ByteArray} (hs : Mk s) {n k g : Nat} (hn : n < 10 ^ s.size) (hk : k < s.size) (h : UpAt s n (k + 1)) (hag : ∀ j, j < k → fl (cd s j) (dgF n s.size 0 j) = dgF n s.size 0 j) (hg : g ≤ 9)
    (hgd : dgF n s.size 0 k < g) (hgo : fl (cd s k) g = g) (hno : ∀ y, dgF n s.size 0 k < y → y < g → ¬ fl (cd s k) y = y) (hself : ¬ hasN (codes s) n = true) : UpR s n (vlF (upF s n k g) s.size) := by
  have h9 := fun j => upF_le hs (n := n) (k := k) hg j
  have e0 : vlF (upF s n k g) (k + 1) = 10 * (n / 10 ^ (s.size - k)) + g := by
    simp only [vlF]
    rw [vlF_congr (g := dgF n s.size 0) k (fun j hj => by unfold upF; rw [if_pos hj]), vlF_dg hn k (by omega)]
    unfold upF; rw [if_neg (by omega), if_pos rfl]
  have e1 : n / 10 ^ (s.size - k) = n / 10 ^ (s.size - (k + 1)) / 10 := by rw [div_pow_succ]; congr 2; omega
  have hd := dg_at (n := n) hk
  have hlt : n < vlF (upF s n k g) s.size := by
    by_cases e : n < vlF (upF s n k g) s.size
    · exact e
    · have h1 : vlF (upF s n k g) s.size / 10 ^ (s.size - (k + 1)) ≤ n / 10 ^ (s.size - (k + 1)) := Nat.div_le_div_right (by omega)
      rw [vl_div h9 (by omega), e0, e1] at h1
      omega
  refine ⟨?_, Nat.le_of_lt hlt, fun x hx hnx => ?_⟩
  · rw [← pre_all]
    refine has_vl h9 s.size (Nat.le_refl _) fun j hj => ?_
    unfold upF
    split
    · exact hag j ‹_›
    · split
      · rename_i e; rw [e]; exact hgo
      · exact fl_fl _ _
  · have hnx' : n < x := by
      by_cases e : n = x
      · rw [e] at hself; exact absurd hx hself
      · omega
    have key : ∀ j, k + 1 + j ≤ s.size → vlF (upF s n k g) (k + 1 + j) ≤ x / 10 ^ (s.size - (k + 1 + j)) := by
      intro j
      induction j with
      | zero =>
        intro _
        have h0 := h x hx hnx'
        have h2 := has_pre s.size (Nat.le_refl _) x (by rw [pre_all]; exact hx) (k + 1) (by omega)
        have h3 := has_digit hk h2
        rw [Nat.add_zero, e0, e1]
        have := hno (x / 10 ^ (s.size - (k + 1)) % 10)
        generalize x / 10 ^ (s.size - (k + 1)) = X at *
        generalize n / 10 ^ (s.size - (k + 1)) = N at *
        by_cases e : N / 10 < X / 10
        · omega
        · by_cases e2 : X % 10 < g
          · exact absurd h3 (this (by rw [hd]; omega) e2)
          · omega
      | succ j ih =>
        intro hj
        have h0 := ih (by omega)
        have h2 := has_pre s.size (Nat.le_refl _) x (by rw [pre_all]; exact hx) (k + 1 + j + 1) (by omega)
        have h3 := has_digit (show k + 1 + j < s.size by omega) h2
        have e3 : x / 10 ^ (s.size - (k + 1 + j)) = x / 10 ^ (s.size - (k + 1 + j + 1)) / 10 := by rw [div_pow_succ]; congr 2; omega
        rw [e3] at h0
        rw [← Nat.add_assoc]
        simp only [vlF]
        have h4 : upF s n k g (k + 1 + j) ≤ x / 10 ^ (s.size - (k + 1 + j + 1)) % 10 := by
          rw [← h3]
          unfold upF
          rw [if_neg (by omega), if_neg (by omega), if_pos (by omega)]
          unfold fl
          split <;> omega
        omega
    have := key (s.size - (k + 1)) (by omega)
    rw [show k + 1 + (s.size - (k + 1)) = s.size by omega, Nat.sub_self, Nat.pow_zero, Nat.div_one] at this
    exact this
theorem up_self {s : ByteArray} {n : Nat} (h : hasN (codes s) n = true) : UpR s n n := ⟨h, Nat.le_refl _, fun _ _ h => h⟩

/-- every number of the mask that is less than n is less already by its first k places -/
def DnAt (s : ByteArray) (n k : Nat) : Prop := ∀ x, hasN (codes s) x = true → x < n → x / 10 ^ (s.size - k) < n / 10 ^ (s.size - k)
theorem dn_start {s : ByteArray} {n c : Nat} (hc : c < s.size) (hb : ¬ fl (cd s c) (dgF n s.size 0 c) = dgF n s.size 0 c) : DnAt s n (c + 1) := by
  intro x hx hn
  have h1 : x / 10 ^ (s.size - (c + 1)) ≤ n / 10 ^ (s.size - (c + 1)) := Nat.div_le_div_right (by omega)
  by_cases e : n / 10 ^ (s.size - (c + 1)) = x / 10 ^ (s.size - (c + 1))
  · exfalso
    apply hb
    have h2 := has_pre s.size (Nat.le_refl _) x (by rw [pre_all]; exact hx) (c + 1) (by omega)
    have h3 := has_digit hc h2
    rw [← e, ← dg_at hc] at h3
    exact h3
  · omega
theorem dn_step {s : ByteArray} {n k : Nat} (hk : k < s.size) (h : DnAt s n (k + 1)) (hno : ∀ g, g < dgF n s.size 0 k → ¬ fl (cd s k) g = g) : DnAt s n k := by
  intro x hx hn
  have h0 := h x hx hn
  have h2 := has_pre s.size (Nat.le_refl _) x (by rw [pre_all]; exact hx) (k + 1) (by omega)
  have h3 := has_digit hk h2
  have e1 : n / 10 ^ (s.size - k) = n / 10 ^ (s.size - (k + 1)) / 10 := by rw [div_pow_succ]; congr 2; omega
  have e2 : x / 10 ^ (s.size - k) = x / 10 ^ (s.size - (k + 1)) / 10 := by rw [div_pow_succ]; congr 2; omega
  rw [e1, e2]
  have hd := dg_at (n := n) hk
  have := hno (x / 10 ^ (s.size - (k + 1)) % 10)
  generalize x / 10 ^ (s.size - (k + 1)) = X at *
  generalize n / 10 ^ (s.size - (k + 1)) = N at *
  by_cases e : X / 10 < N / 10
  · exact e
  · exact absurd h3 (this (by rw [hd]; omega))
theorem dn_zero {s : ByteArray} {n x : Nat} (hlt : n < 10 ^ s.size) (h : DnAt s n 0) (hx : hasN (codes s) x = true) (hn : x < n) : False := by
  have h1 := h x hx hn
  have h3 : n / 10 ^ (s.size - 0) = 0 := Nat.div_eq_of_lt hlt
  rw [h3] at h1
  exact Nat.not_lt_zero _ h1
/-- the digits of the number found: those of n, then g, then the greatest ones -/
def dnF (s : ByteArray) (n k g : Nat) (j : Nat) : Nat := if j < k then dgF n s.size 0 j else if j = k then g else if j < s.size then fl (cd s j) 9 else 0
theorem dnF_le {s : ByteArray} (hs : Mk s) {n k g : Nat} (hg : g ≤ 9) (j : Nat) : dnF s n k g j ≤ 9 := by
  unfold dnF
  split
  · exact dgF_le j
  · split
    · exact hg
    · split
      · exact fl_le (cd_ok hs ‹_›) (by omega)
      · omega
structure DnR (s : ByteArray) (n u : Nat) : Prop where
  has : hasN (codes s) u = true
  at_ : u ≤ n
  most : ∀ x, hasN (codes s) x = true → x ≤ n → x ≤ u
theorem DnR.uniq {s : ByteArray} {n u v : Nat} (h : DnR s n u) (g : DnR s n v) : u = v := Nat.le_antisymm (g.most u h.has h.at_) (h.most v g.has g.at_)
theorem dn_found {s : ByteArray} (hs : Mk s) {n k g : Nat} (hn : n < 10 ^ s.size) (hk : k < s.size) (h : DnAt s n (k + 1)) (hag : ∀ j, j < k → fl (cd s j) (dgF n s.size 0 j) = dgF n s.size 0 j) (hg : g ≤ 9)
    (hgd : g < dgF n s.size 0 k) (hgo : fl (cd s k) g = g) (hno : ∀ y, g < y → y < dgF n s.size 0 k → ¬ fl (cd s k) y = y) (hself : ¬ hasN (codes s) n = true) : DnR s n (vlF (dnF s n k g) s.size) := by
  have h9 := fun j => dnF_le hs (n := n) (k := k) hg j
  have e0 : vlF (dnF s n k g) (k + 1) = 10 * (n / 10 ^ (s.size - k)) + g := by
    simp only [vlF]
    rw [vlF_congr (g := dgF n s.size 0) k (fun j hj => by unfold dnF; rw [if_pos hj]), vlF_dg hn k (by omega)]
    unfold dnF; rw [if_neg (by omega), if_pos rfl]
  have e1 : n / 10 ^ (s.size - k) = n / 10 ^ (s.size - (k + 1)) / 10 := by rw [div_pow_succ]; congr 2; omega
  have hd := dg_at (n := n) hk
  have hlt : vlF (dnF s n k g) s.size < n := by
    by_cases e : vlF (dnF s n k g) s.size < n
    · exact e
    · have h1 : n / 10 ^ (s.size - (k + 1)) ≤ vlF (dnF s n k g) s.size / 10 ^ (s.size - (k + 1)) := Nat.div_le_div_right (by omega)
      rw [vl_div h9 (by omega), e0, e1] at h1
      omega
  refine ⟨?_, Nat.le_of_lt hlt, fun x hx hnx => ?_⟩
  · rw [← pre_all]
    refine has_vl h9 s.size (Nat.le_refl _) fun j hj => ?_
    unfold dnF
    split
    · exact hag j ‹_›
    · split
      · rename_i e; rw [e]; exact hgo
      · exact fl_fl _ _
  · have hnx' : x < n := by
      by_cases e : n = x
      · rw [e] at hself; exact absurd hx hself
      · omega
    have key : ∀ j, k + 1 + j ≤ s.size → x / 10 ^ (s.size - (k + 1 + j)) ≤ vlF (dnF s n k g) (k + 1 + j) := by
      intro j
      induction j with
      | zero =>
        intro _
        have h0 := h x hx hnx'
        have h2 := has_pre s.size (Nat.le_refl _) x (by rw [pre_all]; exact hx) (k + 1) (by omega)
        have h3 := has_digit hk h2
        rw [Nat.add_zero, e0, e1]
        have := hno (x / 10 ^ (s.size - (k + 1)) % 10)
        generalize x / 10 ^ (s.size - (k + 1)) = X at *
        generalize n / 10 ^ (s.size - (k + 1)) = N at *
        by_cases e : X / 10 < N / 10
        · omega
        · by_cases e2 : g < X % 10
          · exact absurd h3 (this e2 (by rw [hd]; omega))
          · omega
      | succ j ih =>
        intro hj
        have h0 := ih (by omega)
        have h2 := has_pre s.size (Nat.le_refl _) x (by rw [pre_all]; exact hx) (k + 1 + j + 1) (by omega)
        have h3 := has_digit (show k + 1 + j < s.size by omega) h2
        have e3 : x / 10 ^ (s.size - (k + 1 + j)) = x / 10 ^ (s.size - (k + 1 + j + 1)) / 10 := by rw [div_pow_succ]; congr 2; omega
        rw [e3] at h0
        rw [← Nat.add_assoc]
        simp only [vlF]
        have h4 : x / 10 ^ (s.size - (k + 1 + j + 1)) % 10 ≤ dnF s n k g (k + 1 + j) := by
          rw [← h3]
          unfold dnF
          rw [if_neg (by omega), if_neg (by omega), if_pos (by omega)]
          unfold fl
          split <;> omega
        omega
    have := key (s.size - (k + 1)) (by omega)
    rw [show k + 1 + (s.size - (k + 1)) = s.size by omega, Nat.sub_self, Nat.pow_zero, Nat.div_one] at this
    exact this
theorem dn_self {s : ByteArray} {n : Nat} (h : hasN (codes s) n = true) : DnR s n n := ⟨h, Nat.le_refl _, fun _ _ h => h⟩
end Go.Proofs.Ytabhfpfnaaihjaa
