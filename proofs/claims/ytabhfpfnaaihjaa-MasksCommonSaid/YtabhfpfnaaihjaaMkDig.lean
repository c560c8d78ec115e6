/-
  DERIVED. A NUMBER'S TEXT, FILLED UP WITH ZEROS, AS A MASK.
-/
import Derived.Test.YtabhfpfnaaihjaaMkText
import Derived.Test.YtabhfpfnaaihjaaMkComMath
namespace Go.Proofs.Ytabhfpfnaaihjaa
open Go.RowKit

/-- the decimal text -/
def decS (n : Int) : ByteArray := ⟨(Lib.itoa n).toArray⟩
theorem dgK_snoc : ∀ k n, dgK (k + 1) n = dgK k n ++ [48 + n / 10 ^ k % 10]
  | 0, n => by simp [dgK]
  | k + 1, n => by
    rw [dgK, dgK_snoc k (n / 10)]
    show _ = (48 + n % 10) :: dgK k (n / 10) ++ _
    rw [Nat.div_div_eq_div_mul, Nat.pow_succ, Nat.mul_comm 10 (10 ^ k)]
    rfl
theorem dg_dgK : ∀ n, (dg n).map (48 + ·) = dgK (dg n).length n := by
  intro n
  induction n using Nat.strongRecOn with
  | _ n ih =>
    by_cases h : n = 0
    · subst h; rw [dg_zero]; rfl
    · rw [dg_pos h, List.map_cons, List.length_cons, dgK, ih (n / 10) (by omega)]
theorem dg_lt (n : Nat) : n < 10 ^ (dg n).length := by
  have := vl_lt (dg n) (dg_le n)
  rw [vl_dg] at this; exact this
/-- the codes of d are the last digits of n, and n has no more -/
structure Pad (d : ByteArray) (n : Nat) : Prop where
  codes : codes d = dgK d.size n
  lt : n < 10 ^ d.size
  one : 1 ≤ d.size
theorem pad_dec {n : Int} (h0 : 0 ≤ n) : Pad (decS n) n.toNat := by
  by_cases h : n = 0
  · subst h
    have hi : Lib.itoa 0 = [48] := by unfold Lib.itoa; rw [if_neg (by decide), Lib.decDigits]; rfl
    unfold decS
    rw [hi]
    exact ⟨rfl, by decide, by decide⟩
  · have e := R1.itoa_textL n h
    have hn : n.natAbs = n.toNat := by omega
    have hs : R1.sgn n = [] := by unfold R1.sgn; rw [if_neg (by omega)]
    unfold R1.textL at e
    rw [hs, List.nil_append, hn] at e
    have hf : fwd (decS n) = (dg n.toNat).reverse.map (48 + ·) := by
      unfold fwd decS
      rw [e]
      show (((dg n.toNat).reverse.map (48 + ·)).map fun d => UInt8.ofNat d).map (·.toNat) = _
      apply bytes_back
      intro d hd
      rw [List.mem_map] at hd
      obtain ⟨x, hx, rfl⟩ := hd
      have := dg_le n.toNat x (List.mem_reverse.1 hx)
      omega
    have hl : (decS n).size = (dg n.toNat).length := by rw [← fwd_len, hf]; simp
    have hpos : 0 < (dg n.toNat).length := by
      rcases Nat.eq_zero_or_pos (dg n.toNat).length with e | e
      · have := dg_nil.1 (List.length_eq_zero_iff.1 e); omega
      · exact e
    refine ⟨?_, by rw [hl]; exact dg_lt _, by omega⟩
    unfold Go.Proofs.Ytabhfpfnaaihjaa.codes
    rw [hf, hl, ← List.map_reverse, List.reverse_reverse, dg_dgK]
/-- a zero more in front -/
theorem pad_zero {d : ByteArray} {n : Nat} (h : Pad d n) : Pad (⟨#[48]⟩ ++ d) n := by
  have hs : ((⟨#[48]⟩ : ByteArray) ++ d).size = d.size + 1 := by rw [ByteArray.size_append]; show 1 + d.size = _; omega
  refine ⟨?_, by rw [hs, Nat.pow_succ]; have := h.lt; omega, by omega⟩
  have hf : fwd ((⟨#[48]⟩ : ByteArray) ++ d) = 48 :: fwd d := by
    unfold fwd
    rw [ByteArray.data_append, Array.toList_append, List.map_append]; rfl
  unfold Go.Proofs.Ytabhfpfnaaihjaa.codes
  rw [hf, hs, List.reverse_cons, dgK_snoc, Nat.div_eq_of_lt h.lt]
  have := h.codes
  unfold Go.Proofs.Ytabhfpfnaaihjaa.codes at this
  rw [this]
theorem Pad.mk_ {d : ByteArray} {n : Nat} (h : Pad d n) (h18 : d.size ≤ 18) : Mk d := ⟨h.one, h18, fun c hc => by
  rw [h.codes] at hc
  exact .inr (dgK_no _ _ c hc)⟩
/-- the mask of a number's own digits is common with a mask exactly if the number is one of its numbers -/
theorem pad_has {a d : ByteArray} {n : Int} (ha : Mk a) (h0 : 0 ≤ n) (hd : Pad d n.toNat) (hs : d.size = a.size) :
    comOk (fwd a) (fwd d) = hasI (codes a) n ∧ (comOk (fwd a) (fwd d) = true → comS a d = d) := by
  have hl : (fwd a).length = (fwd d).length := by rw [fwd_len, fwd_len, hs]
  have hc : comOk (fwd a) (fwd d) = fits (codes a) n.toNat := by
    rw [← comOk_rev hl]
    show comOk (codes a) (codes d) = _
    rw [hd.codes, hs, ← codes_len a, comOk_dgK ha.ok]
  constructor
  · rw [hc]
    unfold hasI hasN
    have hlt := hd.lt
    rw [hs] at hlt
    rw [codes_len, Nat.div_eq_of_lt hlt, decide_eq_true h0]; simp
  · intro h
    have hno : ∀ c ∈ fwd d, c ≠ 88 := by
      intro c hc
      have h1 : c ∈ codes d := List.mem_reverse.2 hc
      rw [hd.codes] at h1
      have := dgK_no _ _ c h1
      omega
    unfold comS
    rw [if_pos h, comL_self hl hno h]
    apply ByteArray.ext
    apply Array.ext'
    show (fwd d).map (fun d => UInt8.ofNat d) = d.data.toList
    unfold fwd
    rw [List.map_map]
    conv => rhs; rw [← List.map_id d.data.toList]
    apply List.map_congr_left
    intro x _
    show UInt8.ofNat x.toNat = x
    exact UInt8.ofNat_toNat
/-- the text of a number, as the law asks for it -/
theorem size_dec {n : Int} (h0 : -9223372036854775808 ≤ n) (h1 : n ≤ 9223372036854775807) : (decS n).size ≤ 20 := by
  by_cases h : n = 0
  · subst h
    have hi : Lib.itoa 0 = [48] := by unfold Lib.itoa; rw [if_neg (by decide), Lib.decDigits]; rfl
    unfold decS; rw [hi]; decide
  · have e := R1.itoa_textL n h
    have hd : (dg n.natAbs).length ≤ 19 := dg_length_le _ _ (by
      have : (10 : Nat) ^ 19 = 10000000000000000000 := by decide
      omega)
    unfold decS
    rw [e]
    show ((R1.textL n).map fun d => UInt8.ofNat d).length ≤ 20
    unfold R1.textL R1.sgn
    rw [List.length_map, List.length_append, List.length_map, List.length_reverse]
    split <;> simp <;> omega
end Go.Proofs.Ytabhfpfnaaihjaa
