/-
  DERIVED. THE COMMON MASK: its numbers are those of both. No program.
-/
import Derived.Test.YtabhfpfnaaihjaaMkCommon
namespace Go.Proofs.Ytabhfpfnaaihjaa

theorem fitB_iff (a b : Nat) : fitB a b = true ↔ b = 88 ∨ a = 88 ∨ b = a := by
  unfold fitB cm
  by_cases h : a = 88 <;> simp [h]
theorem fitB_comm (a b : Nat) : fitB a b = fitB b a := by
  rw [Bool.eq_iff_iff, fitB_iff, fitB_iff]
  constructor <;> rintro (h | h | h) <;> simp [h]
theorem cm_comm {a b : Nat} (h : fitB a b = true) : cm a b = cm b a := by
  rw [fitB_iff] at h
  unfold cm
  split <;> split <;> omega
theorem comOk_cons (a b : Nat) (s t : List Nat) : comOk (a :: s) (b :: t) = (fitB a b && comOk s t) := by unfold comOk; simp
theorem comL_cons (a b : Nat) (s t : List Nat) : comL (a :: s) (b :: t) = cm a b :: comL s t := rfl
theorem comOk_comm : ∀ s t : List Nat, comOk s t = comOk t s
  | [], [] => rfl
  | [], _ :: _ => rfl
  | _ :: _, [] => rfl
  | a :: s, b :: t => by rw [comOk_cons, comOk_cons, fitB_comm, comOk_comm s t]
theorem comL_comm : ∀ s t : List Nat, comOk s t = true → comL s t = comL t s
  | [], [], _ => rfl
  | [], _ :: _, _ => rfl
  | _ :: _, [], _ => rfl
  | a :: s, b :: t, h => by
    rw [comOk_cons, Bool.and_eq_true] at h
    rw [comL_cons, comL_cons, cm_comm h.1, comL_comm s t h.2]
theorem comL_len {s t : List Nat} (h : s.length = t.length) : (comL s t).length = s.length := by unfold comL; rw [List.length_zipWith]; omega
theorem comL_dm : ∀ {s t : List Nat}, Dm s → Dm t → Dm (comL s t)
  | [], _, _, _ => fun _ h => by cases h
  | _ :: _, [], _, _ => fun _ h => by cases h
  | a :: s, b :: t, hs, ht => by
    intro c hc
    rw [comL_cons] at hc
    rcases List.mem_cons.1 hc with e | e
    · rw [e]; unfold cm; split
      · exact ht.head
      · exact hs.head
    · exact comL_dm hs.tail ht.tail c e
/-- a place of the common mask takes a digit exactly if both places take it -/
theorem place {a b d : Nat} (ha : a = 88 ∨ 48 ≤ a ∧ a ≤ 57) (hb : b = 88 ∨ 48 ≤ b ∧ b ≤ 57) : 
    ((fitB a b = true → (cm a b = 88 ∨ cm a b - 48 = d ↔ (a = 88 ∨ a - 48 = d) ∧ (b = 88 ∨ b - 48 = d))) ∧ (fitB a b = false → ¬ ((a = 88 ∨ a - 48 = d) ∧ (b = 88 ∨ b - 48 = d)))) ∨ 10 ≤ d := by
  by_cases hd : 10 ≤ d
  · exact .inr hd
  · left
    constructor
    · intro h
      rw [fitB_iff] at h
      unfold cm
      split <;> omega
    · intro h g
      have : ¬ fitB a b = true := by rw [h]; decide
      rw [fitB_iff] at this
      omega
theorem fits_com : ∀ {s t : List Nat}, s.length = t.length → Dm s → Dm t → ∀ n, (comOk s t = true → fits (comL s t) n = (fits s n && fits t n)) ∧ (comOk s t = false → (fits s n && fits t n) = false)
  | [], [], _, _, _, n => ⟨fun _ => rfl, fun h => by cases h⟩
  | [], _ :: _, h, _, _, _ => by cases h
  | _ :: _, [], h, _, _, _ => by cases h
  | a :: s, b :: t, h, hs, ht, n => by
    obtain ⟨i1, i2⟩ := fits_com (s := s) (t := t) (by simpa using h) hs.tail ht.tail (n / 10)
    have hp := (place (d := n % 10) hs.head ht.head).resolve_right (by omega)
    rw [comOk_cons, comL_cons]
    simp only [fits]
    constructor
    · intro g
      rw [Bool.and_eq_true] at g
      have h1 := hp.1 g.1
      rw [i1 g.2, Bool.eq_iff_iff]
      simp only [Bool.and_eq_true, Bool.or_eq_true, beq_iff_eq, h1]
      constructor
      · rintro ⟨⟨x, y⟩, z, u⟩; exact ⟨⟨x, z⟩, y, u⟩
      · rintro ⟨⟨x, z⟩, y, u⟩; exact ⟨⟨x, y⟩, z, u⟩
    · intro g
      cases e : fitB a b with
      | false =>
        have h1 := hp.2 e
        rw [Bool.eq_false_iff]
        intro k
        simp only [Bool.and_eq_true, Bool.or_eq_true, beq_iff_eq] at k
        exact h1 ⟨k.1.1, k.2.1⟩
      | true =>
        rw [e, Bool.true_and] at g
        have h2 := i2 g
        rw [Bool.eq_false_iff] at h2 ⊢
        intro k
        apply h2
        simp only [Bool.and_eq_true] at k ⊢
        exact ⟨k.1.2, k.2.2⟩
theorem comL_rev {s t : List Nat} (h : s.length = t.length) : (comL s t).reverse = comL s.reverse t.reverse := by unfold comL; rw [List.reverse_zipWith h]
theorem comOk_rev {s t : List Nat} (h : s.length = t.length) : comOk s.reverse t.reverse = comOk s t := by
  unfold comOk; rw [← List.reverse_zipWith h, List.all_reverse]
theorem bytes_back {l : List Nat} (h : ∀ d ∈ l, d < 256) : (l.map fun d => UInt8.ofNat d).map (·.toNat) = l := by
  rw [List.map_map]
  conv => rhs; rw [← List.map_id l]
  apply List.map_congr_left
  intro d hd
  show (UInt8.ofNat d).toNat = d
  rw [UInt8.toNat_ofNat']
  exact Nat.mod_eq_of_lt (h d hd)
theorem Mk.dm {s : ByteArray} (h : Mk s) : Dm (fwd s) := fun c hc => h.ok c (List.mem_reverse.2 hc)
theorem fwd_comS {a b : ByteArray} (ha : Mk a) (hb : Mk b) (h : comOk (fwd a) (fwd b) = true) : fwd (comS a b) = comL (fwd a) (fwd b) := by
  unfold comS
  rw [if_pos h]
  show ((comL (fwd a) (fwd b)).map fun d => UInt8.ofNat d).map (·.toNat) = _
  apply bytes_back
  intro d hd
  have := comL_dm ha.dm hb.dm d hd
  omega
theorem size_comS {a b : ByteArray} (ha : Mk a) (hb : Mk b) (hab : b.size = a.size) (h : comOk (fwd a) (fwd b) = true) : (comS a b).size = a.size := by
  rw [← fwd_len, fwd_comS ha hb h, comL_len (by rw [fwd_len, fwd_len, hab]), fwd_len]
/-- the common mask of two masks is a mask -/
theorem mk_comS {a b : ByteArray} (ha : Mk a) (hb : Mk b) (hab : b.size = a.size) (h : comOk (fwd a) (fwd b) = true) : Mk (comS a b) := by
  have hs := size_comS ha hb hab h
  refine ⟨by have := ha.one; omega, by have := ha.most; omega, ?_⟩
  intro c hc
  unfold codes at hc
  rw [List.mem_reverse, fwd_comS ha hb h] at hc
  exact comL_dm ha.dm hb.dm c hc
/-- .. its numbers are those of both -/
theorem has_comS {a b : ByteArray} (ha : Mk a) (hb : Mk b) (hab : b.size = a.size) (n : Int) :
    (comOk (fwd a) (fwd b) = true → hasI (codes (comS a b)) n = (hasI (codes a) n && hasI (codes b) n)) ∧ (comOk (fwd a) (fwd b) = false → (hasI (codes a) n && hasI (codes b) n) = false) := by
  have hl : (fwd a).length = (fwd b).length := by rw [fwd_len, fwd_len, hab]
  obtain ⟨f1, f2⟩ := fits_com (s := codes a) (t := codes b) (by rw [codes_len, codes_len, hab]) ha.ok hb.ok n.toNat
  have hr : comOk (codes a) (codes b) = comOk (fwd a) (fwd b) := comOk_rev hl
  rw [hr] at f1 f2
  constructor
  · intro h
    have hc : codes (comS a b) = comL (codes a) (codes b) := by unfold codes; rw [fwd_comS ha hb h, comL_rev hl]
    unfold hasI hasN
    rw [hc, f1 h, comL_len (by rw [codes_len, codes_len, hab]), codes_len, codes_len, hab]
    cases decide (0 ≤ n) <;> cases fits (codes a) n.toNat <;> cases fits (codes b) n.toNat <;> cases (n.toNat / 10 ^ a.size == 0) <;> rfl
  · intro h
    have h2 := f2 h
    unfold hasI hasN
    revert h2
    cases decide (0 ≤ n) <;> cases fits (codes a) n.toNat <;> cases fits (codes b) n.toNat <;> simp
theorem comS_comm (a b : ByteArray) : comS a b = comS b a := by
  unfold comS
  rw [comOk_comm (fwd b) (fwd a)]
  split
  · rename_i h; rw [comL_comm _ _ h]
  · rfl
/-! a number's digits as a mask -/
/-- the codes of the last k digits, the last place first -/
def dgK : Nat → Nat → List Nat
  | 0, _ => []
  | k + 1, n => (48 + n % 10) :: dgK k (n / 10)
theorem dgK_len : ∀ k n, (dgK k n).length = k
  | 0, _ => rfl
  | k + 1, n => by rw [dgK, List.length_cons, dgK_len]
theorem comOk_dgK : ∀ {l : List Nat}, Dm l → ∀ n, comOk l (dgK l.length n) = fits l n
  | [], _, _ => rfl
  | c :: r, h, n => by
    rw [List.length_cons, dgK, comOk_cons, comOk_dgK h.tail]
    simp only [fits]
    congr 1
    rw [Bool.eq_iff_iff, fitB_iff]
    have := h.head
    simp only [Bool.or_eq_true, beq_iff_eq]
    omega
/-- a mask without X: the common mask is that mask itself -/
theorem comL_self : ∀ {s t : List Nat}, s.length = t.length → (∀ c ∈ t, c ≠ 88) → comOk s t = true → comL s t = t
  | [], [], _, _, _ => rfl
  | [], _ :: _, h, _, _ => by cases h
  | _ :: _, [], h, _, _ => by cases h
  | a :: s, b :: t, h, hb, hk => by
    rw [comOk_cons, Bool.and_eq_true] at hk
    have h1 := (fitB_iff a b).1 hk.1
    have h2 := hb b List.mem_cons_self
    rw [comL_cons, comL_self (by simpa using h) (fun c hc => hb c (List.mem_cons_of_mem _ hc)) hk.2]
    congr 1
    unfold cm
    split <;> omega
theorem dgK_no : ∀ k n, ∀ c ∈ dgK k n, 48 ≤ c ∧ c ≤ 57
  | 0, _, _, h => by cases h
  | k + 1, n, c, h => by
    rw [dgK] at h
    rcases List.mem_cons.1 h with e | e
    · omega
    · exact dgK_no k (n / 10) c e
end Go.Proofs.Ytabhfpfnaaihjaa
