/-
  DERIVED. TEXTS OF CIVIL DAYS AS LISTS OF BYTES: places of digits, years with at least four digits, the form of a text. No program.
-/
import Derived.Test.YtoafigehcgledaaGreatDoorCvMath
import Derived.Test.YtoafigehcgledaaGreatDoorDec
namespace Go.Proofs.YtoafigehcgledaaGreatDoor

def d8 (n : Nat) : UInt8 := UInt8.ofNat (48 + n)
theorem d8_nat {n : Nat} (h : n < 10) : (d8 n).toNat = 48 + n := by unfold d8; rw [UInt8.toNat_ofNat']; omega
theorem d8_dig {n : Nat} (h : n < 10) : dig (d8 n) := by unfold dig; rw [d8_nat h]; omega
theorem d8_of {c : UInt8} (h : dig c) : d8 (c.toNat - 48) = c := by
  apply UInt8.toNat_inj.1
  unfold dig at h
  rw [d8_nat (by omega)]; omega
/-- k places of n -/
def fx : Nat → Nat → List UInt8
  | 0, _ => []
  | k + 1, n => fx k (n / 10) ++ [d8 (n % 10)]
theorem fx_nil (n : Nat) : fx 0 n = [] := rfl
theorem valM_nil (a : Nat) : valM a [] = a := rfl
theorem fx_len (k : Nat) : ∀ n, (fx k n).length = k := by
  induction k with
  | zero => intro n; rfl
  | succ k ih => intro n; unfold fx; rw [List.length_append, ih]; rfl
theorem fx_dig (k : Nat) : ∀ n, ∀ c ∈ fx k n, dig c := by
  induction k with
  | zero => intro n c h; simp [fx] at h
  | succ k ih =>
    intro n c h
    unfold fx at h
    rw [List.mem_append] at h
    rcases h with h | h
    · exact ih _ c h
    · simp at h; subst h; exact d8_dig (by omega)
theorem fx_zero (k : Nat) : fx k 0 = List.replicate k 48 := by
  induction k with
  | zero => rfl
  | succ k ih => unfold fx; rw [Nat.zero_div, ih, List.replicate_succ']; rfl
theorem valM_app (a b : List UInt8) : ∀ acc, valM acc (a ++ b) = valM (valM acc a) b := by
  induction a with
  | nil => intro acc; rfl
  | cons c r ih => intro acc; exact ih _
theorem valM_snoc (a : List UInt8) (c : UInt8) (acc : Nat) : valM acc (a ++ [c]) = valM acc a * 10 + (c.toNat - 48) := by rw [valM_app]; rfl
theorem fx_val (k : Nat) : ∀ n, valM 0 (fx k n) = n % 10 ^ k := by
  induction k with
  | zero => intro n; rw [Nat.pow_zero, Nat.mod_one]; rfl
  | succ k ih =>
    intro n
    unfold fx
    have h1 := d8_nat (n := n % 10) (by omega)
    have h2 : n % 10 ^ (k + 1) = n % 10 + 10 * (n / 10 % 10 ^ k) := by rw [Nat.pow_succ, Nat.mul_comm (10 ^ k) 10, Nat.mod_mul]
    rw [valM_snoc, ih, h1, h2]
    generalize n / 10 % 10 ^ k = q
    omega
theorem val_fx (m : List UInt8) (h : ∀ c ∈ m, dig c) : fx m.length (valM 0 m.reverse) = m.reverse ∧ valM 0 m.reverse < 10 ^ m.length := by
  induction m with
  | nil => rw [List.reverse_nil, List.length_nil, fx_nil, valM_nil]; exact ⟨rfl, by decide⟩
  | cons c r ih =>
    have hc := h c (by simp)
    have ⟨i1, i2⟩ := ih (fun x hx => h x (by simp [hx]))
    rw [List.reverse_cons, valM_snoc, List.length_cons]
    have hd := hc
    unfold dig at hc
    constructor
    · unfold fx
      rw [show (valM 0 r.reverse * 10 + (c.toNat - 48)) / 10 = valM 0 r.reverse by omega, show (valM 0 r.reverse * 10 + (c.toNat - 48)) % 10 = c.toNat - 48 by omega, i1, d8_of hd]
    · rw [Nat.pow_succ]; omega
theorem val_fx' {l : List UInt8} (h : ∀ c ∈ l, dig c) : fx l.length (valM 0 l) = l ∧ valM 0 l < 10 ^ l.length := by
  have := val_fx l.reverse (fun c hc => h c (by simpa using hc))
  simpa using this
theorem dec_pad (k : Nat) : ∀ n, n < 10 ^ (k + 1) → List.replicate (k + 1 - (Lib.decDigits n).length) 48 ++ Lib.decDigits n = fx (k + 1) n ∧ (Lib.decDigits n).length ≤ k + 1 := by
  induction k with
  | zero =>
    intro n h
    rw [Lib.decDigits, dif_pos (by simpa using h)]
    refine ⟨?_, by simp⟩
    simp [fx, d8]
    rw [Nat.mod_eq_of_lt (by simpa using h)]
  | succ k ih =>
    intro n h
    by_cases g : n < 10
    · rw [Lib.decDigits, dif_pos g]
      refine ⟨?_, by simp⟩
      rw [show k + 1 + 1 - [UInt8.ofNat (48 + n)].length = k + 1 by simp]
      rw [fx, Nat.div_eq_of_lt g, fx_zero, Nat.mod_eq_of_lt g]; rfl
    · have h2 := ih (n / 10) (by rw [Nat.pow_succ] at h; omega)
      rw [Lib.decDigits, dif_neg g]
      refine ⟨?_, by simp; omega⟩
      rw [List.length_append, List.length_singleton, show k + 1 + 1 - ((Lib.decDigits (n / 10)).length + 1) = k + 1 - (Lib.decDigits (n / 10)).length by omega, ← List.append_assoc, h2.1, fx.eq_2 n (k + 1)]; rfl
theorem dec_len (k : Nat) : ∀ n, 10 ^ k ≤ n → n < 10 ^ (k + 1) → (Lib.decDigits n).length = k + 1 := by
  induction k with
  | zero => intro n _ h; rw [Lib.decDigits, dif_pos (by simpa using h)]; rfl
  | succ k ih =>
    intro n h1 h2
    have hp : 10 ≤ 10 ^ (k + 1) := by rw [Nat.pow_succ]; have := Nat.pow_pos (n := k) (show 0 < 10 by omega); omega
    rw [Lib.decDigits, dif_neg (by omega), List.length_append, ih (n / 10) (by rw [Nat.pow_succ] at h1; omega) (by rw [Nat.pow_succ] at h2; omega)]; rfl
/-- the year's digits, at least four -/
def padY (n : Nat) : List UInt8 := List.replicate (4 - (Lib.decDigits n).length) 48 ++ Lib.decDigits n
theorem pad_four {n : Nat} (h : n < 10000) : padY n = fx 4 n := (dec_pad 3 n (by simpa using h)).1
theorem pad_big {n k : Nat} (hk : 4 ≤ k) (h1 : 10 ^ k ≤ n) (h2 : n < 10 ^ (k + 1)) : padY n = fx (k + 1) n := by
  have hl := dec_len k n h1 h2
  have h := (dec_pad k n h2).1
  unfold padY
  rw [hl] at h ⊢
  rw [show 4 - (k + 1) = 0 by omega]
  rw [Nat.sub_self] at h
  exact h
theorem pow_at {n : Nat} (h : 10000 ≤ n) : ∃ k, 4 ≤ k ∧ 10 ^ k ≤ n ∧ n < 10 ^ (k + 1) := by
  have hex : ∀ j, n < 10 ^ (j + 4) → ∃ k, 4 ≤ k ∧ 10 ^ k ≤ n ∧ n < 10 ^ (k + 1) := by
    intro j
    induction j with
    | zero => intro g; simp at g; omega
    | succ j ih =>
      intro g
      by_cases c : n < 10 ^ (j + 4)
      · exact ih c
      · exact ⟨j + 4, by omega, by omega, by rw [show j + 4 + 1 = j + 1 + 4 by omega]; exact g⟩
  exact hex n (Nat.lt_of_lt_of_le (Nat.lt_pow_self (by omega)) (Nat.pow_le_pow_right (by omega) (by omega)))
theorem valM_cons (c : UInt8) (r : List UInt8) : valM 0 (c :: r) = (c.toNat - 48) * 10 ^ r.length + valM 0 r := by
  have gen : ∀ (r : List UInt8) (a : Nat), valM a r = a * 10 ^ r.length + valM 0 r := by
    intro r
    induction r with
    | nil => intro a; rw [valM_nil, valM_nil, List.length_nil, Nat.pow_zero]; omega
    | cons x s ih =>
      intro a
      have e1 : valM a (x :: s) = valM (a * 10 + (x.toNat - 48)) s := rfl
      have e2 : valM 0 (x :: s) = valM (0 * 10 + (x.toNat - 48)) s := rfl
      rw [e1, e2, ih, ih (0 * 10 + _), List.length_cons, Nat.pow_succ, Nat.add_mul, Nat.mul_assoc, Nat.mul_comm 10]
      simp
      omega
  have e : valM 0 (c :: r) = valM (0 * 10 + (c.toNat - 48)) r := rfl
  rw [e, gen]; simp
/-- years as texts and back -/
theorem pad_of {l : List UInt8} (h : ∀ c ∈ l, dig c) (h4 : 4 ≤ l.length) (hl : 4 < l.length → ¬ l.getD 0 0 = 48) : padY (valM 0 l) = l := by
  have ⟨e, hb⟩ := val_fx' h
  by_cases g : l.length = 4
  · rw [g] at e hb
    rw [pad_four (by simpa using hb)]; exact e
  · match l, h, h4, hl, e, hb, g with
    | c :: r, h, h4, hl, e, hb, g =>
      have hl' : ¬ c = 48 := by have := hl (by omega); simpa using this
      have hc := h c (by simp)
      have hr : ∀ x ∈ r, dig x := fun x hx => h x (by simp [hx])
      have hv := valM_cons c r
      have hc2 : ¬ c.toNat = 48 := fun e => hl' (UInt8.toNat_inj.1 e)
      unfold dig at hc
      have hlo : 10 ^ r.length ≤ valM 0 (c :: r) := by
        rw [hv]
        have : 1 * 10 ^ r.length ≤ (c.toNat - 48) * 10 ^ r.length := Nat.mul_le_mul_right _ (by omega)
        omega
      rw [List.length_cons] at e hb g h4
      rw [pad_big (k := r.length) (by omega) hlo hb]
      exact e
structure PadForm (n : Nat) (l : List UInt8) : Prop where
  ds : ∀ c ∈ l, dig c
  four : 4 ≤ l.length
  lead : 4 < l.length → ¬ l.getD 0 0 = 48
  val : valM 0 l = n
theorem pad_form (n : Nat) : PadForm n (padY n) := by
  by_cases h : n < 10000
  · rw [pad_four h]
    exact ⟨fx_dig 4 n, by rw [fx_len]; exact Nat.le_refl _, fun g => by rw [fx_len] at g; omega, by rw [fx_val]; exact Nat.mod_eq_of_lt (by simpa using h)⟩
  · obtain ⟨k, hk, h1, h2⟩ := pow_at (by omega : 10000 ≤ n)
    rw [pad_big hk h1 h2]
    have hd := fx_dig (k + 1) n
    have hv : valM 0 (fx (k + 1) n) = n := by rw [fx_val, Nat.mod_eq_of_lt h2]
    refine ⟨hd, by rw [fx_len]; omega, fun _ hz => ?_, hv⟩
    have hl := fx_len (k + 1) n
    match fx (k + 1) n, hd, hv, hz, hl with
    | c :: r, hd, hv, hz, hl =>
      have hc : c = 48 := by simpa using hz
      have hr : ∀ x ∈ r, dig x := fun x hx => hd x (by simp [hx])
      rw [valM_cons c r, hc] at hv
      have := (val_fx' hr).2
      rw [List.length_cons] at hl
      have hl2 : r.length = k := by omega
      rw [hl2] at this
      simp at hv
      omega
theorem pad_len {n : Nat} (h : n ≤ 10000000000000000) : (padY n).length ≤ 17 := by
  have h2 := (dec_pad 16 n (by omega)).2
  unfold padY
  rw [List.length_append, List.length_replicate]
  omega
/-- the text of a civil day -/
def textC (y m d : Int) : List UInt8 := (if y < 0 then [45] else []) ++ padY y.natAbs ++ [45] ++ fx 2 m.toNat ++ [45] ++ fx 2 d.toNat
/-- the form of a text -/
structure CvForm (l : List UInt8) (neg : Bool) (yr : List UInt8) (a b c d : UInt8) : Prop where
  eq : l = (if neg then [45] else []) ++ yr ++ [45, a, b, 45, c, d]
  ds : ∀ x ∈ yr, dig x
  four : 4 ≤ yr.length
  lead : 4 < yr.length → ¬ yr.getD 0 0 = 48
  nz : ¬ (neg = true ∧ yr = [48, 48, 48, 48])
  da : dig a
  db : dig b
  dc : dig c
  dd : dig d
def yv (neg : Bool) (yr : List UInt8) : Int := if neg then -(valM 0 yr : Int) else valM 0 yr
def tv (a b : UInt8) : Int := 10 * ((a.toNat : Int) - 48) + ((b.toNat : Int) - 48)
theorem fx_two {a b : UInt8} (ha : dig a) (hb : dig b) : fx 2 (tv a b).toNat = [a, b] := by
  have ha2 := ha
  have hb2 := hb
  unfold dig at ha hb
  have e : (tv a b).toNat = (a.toNat - 48) * 10 + (b.toNat - 48) := by unfold tv; omega
  rw [e]
  show ([] ++ [d8 (((a.toNat - 48) * 10 + (b.toNat - 48)) / 10 % 10)]) ++ [d8 (((a.toNat - 48) * 10 + (b.toNat - 48)) % 10)] = [a, b]
  rw [show ((a.toNat - 48) * 10 + (b.toNat - 48)) / 10 % 10 = a.toNat - 48 by omega, show ((a.toNat - 48) * 10 + (b.toNat - 48)) % 10 = b.toNat - 48 by omega, d8_of ha2, d8_of hb2]; rfl
theorem tv_in {a b : UInt8} (ha : dig a) (hb : dig b) : 0 ≤ tv a b ∧ tv a b ≤ 99 := by unfold dig at ha hb; unfold tv; omega
theorem zero_four {yr : List UInt8} (h : ∀ x ∈ yr, dig x) (h4 : 4 ≤ yr.length) (hl : 4 < yr.length → ¬ yr.getD 0 0 = 48) (hz : valM 0 yr = 0) : yr = [48, 48, 48, 48] := by
  have := pad_of h h4 hl
  rw [hz] at this
  rw [← this, pad_four (by decide)]; rfl
/-- what was read has this text -/
theorem form_text {l : List UInt8} {neg : Bool} {yr : List UInt8} {a b c d : UInt8} (h : CvForm l neg yr a b c d) : textC (yv neg yr) (tv a b) (tv c d) = l := by
  unfold textC
  rw [fx_two h.da h.db, fx_two h.dc h.dd, h.eq]
  have hp := pad_of h.ds h.four h.lead
  have hn : (yv neg yr).natAbs = valM 0 yr := by unfold yv; cases neg <;> simp
  have hs : (if yv neg yr < 0 then [45] else ([] : List UInt8)) = if neg = true then [45] else [] := by
    cases neg
    · rw [if_neg (by unfold yv; simp)]; rfl
    · rw [if_pos (by
        unfold yv
        have : ¬ valM 0 yr = 0 := fun hz => h.nz ⟨rfl, zero_four h.ds h.four h.lead hz⟩
        simp; omega)]; rfl
  rw [hn, hp, hs]
  simp
/-- a civil day's text has the form -/
theorem text_form {y m d : Int} (h : Right y m d) : ∃ neg yr a b c e, CvForm (textC y m d) neg yr a b c e ∧ yv neg yr = y ∧ tv a b = m ∧ tv c e = d := by
  have hl := lenM_in y m
  have h1 := h.m0
  have h2 := h.m1
  have h3 := h.d0
  have h4 := h.d1
  have two : ∀ z : Int, 0 ≤ z → z ≤ 99 → ∃ a b, fx 2 z.toNat = [a, b] ∧ dig a ∧ dig b ∧ tv a b = z := by
    intro z z0 z1
    refine ⟨d8 (z.toNat / 10 % 10), d8 (z.toNat % 10), rfl, d8_dig (by omega), d8_dig (by omega), ?_⟩
    unfold tv
    rw [d8_nat (by omega), d8_nat (by omega)]
    omega
  obtain ⟨a, b, e1, da, db, v1⟩ := two m (by omega) (by omega)
  obtain ⟨c, e, e2, dc, de, v2⟩ := two d (by omega) (by omega)
  have hp := pad_form y.natAbs
  refine ⟨decide (y < 0), padY y.natAbs, a, b, c, e, ⟨?_, hp.ds, hp.four, hp.lead, ?_, da, db, dc, de⟩, ?_, v1, v2⟩
  · unfold textC; rw [e1, e2]; by_cases g : y < 0 <;> simp [g]
  · rintro ⟨g, hz⟩
    have hv := hp.val
    rw [hz] at hv
    have : valM 0 [48, 48, 48, 48] = 0 := by decide
    simp at g
    omega
  · unfold yv
    rw [hp.val]
    by_cases g : y < 0
    · simp [g]; omega
    · simp [g]; omega
theorem text_len {y m d : Int} (h : Right y m d) : (textC y m d).length ≤ 24 := by
  have hy := (isY_iff y).1 h.yr
  have := pad_len (n := y.natAbs) (by omega)
  unfold textC
  simp only [List.length_append, fx_len, List.length_singleton]
  split <;> simp <;> omega
end Go.Proofs.YtoafigehcgledaaGreatDoor
