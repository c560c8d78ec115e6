/-
  DERIVED. CONTRACTS of the reference of layer 3 (masks): Count, Nth, Has, Below, Next, Prev, Check.
-/
import Derived.Test.YtabhfpfnaaihjaaProg
import Derived.Test.YtabhfpfnaaihjaaMkMath
import Derived.WalkKit
import Derived.WalkSpells
import Derived.WalkLawsBesides
namespace Go.Proofs.Ytabhfpfnaaihjaa
open Go.RowKit

/-- a fact kept out of the walk's sight (a structure: no tactic looks through it) -/
structure Kp (p : Prop) : Prop where
  out : p
theorem ret_int {k : IntKind} {a b : Int} (h : a = b) : Ending.returned (.int k a) = .returned (.int k b) := by rw [h]
theorem ret_bool {a b : Bool} (h : a = b) : Ending.returned (.bool a) = .returned (.bool b) := by rw [h]
theorem ret_two {a b c d : Value} (h : a = c) (g : b = d) : Ending.returned (.tuple #[a, b]) = .returned (.tuple #[c, d]) := by rw [h, g]

/-- the codes of a string, the first place first; the last place first -/
def fwd (s : ByteArray) : List Nat := s.data.toList.map (·.toNat)
def codes (s : ByteArray) : List Nat := (fwd s).reverse
theorem fwd_len (s : ByteArray) : (fwd s).length = s.size := by unfold fwd; rw [List.length_map, Array.length_toList]; rfl
theorem codes_len (s : ByteArray) : (codes s).length = s.size := by unfold codes; rw [List.length_reverse, fwd_len]
theorem fwd_get {s : ByteArray} {m : Nat} (h : m < s.size) : (fwd s)[m]? = some s[m].toNat := by
  have hl : m < s.data.toList.length := by rw [Array.length_toList]; exact h
  unfold fwd
  rw [List.getElem?_map, List.getElem?_eq_getElem hl]; rfl
theorem fwd_snoc {s : ByteArray} {m : Nat} (h : m < s.size) : (fwd s).take (m + 1) = (fwd s).take m ++ [s[m].toNat] := by
  rw [List.take_add_one, fwd_get h]; rfl
theorem codes_snoc {s : ByteArray} {m : Nat} (h : m < s.size) : (codes s).take (s.size - m) = (codes s).take (s.size - (m + 1)) ++ [s[m].toNat] := by
  have e : s.size - m = (s.size - (m + 1)) + 1 := by omega
  rw [e, List.take_add_one]
  have hg : (codes s)[s.size - (m + 1)]? = some s[m].toNat := by
    unfold codes
    rw [List.getElem?_reverse (by rw [fwd_len]; omega), fwd_len, show s.size - 1 - (s.size - (m + 1)) = m by omega, fwd_get h]
  rw [hg]; rfl
theorem codes_all (s : ByteArray) : (codes s).take s.size = codes s := List.take_of_length_le (by rw [codes_len]; exact Nat.le_refl _)
theorem fwd_all (s : ByteArray) : (fwd s).take s.size = fwd s := List.take_of_length_le (by rw [fwd_len]; exact Nat.le_refl _)
/-- a mask -/
structure Mk (s : ByteArray) : Prop where
  one : 1 ≤ s.size
  most : s.size ≤ 18
  ok : Dm (codes s)
theorem Dm.take {l : List Nat} (h : Dm l) (n : Nat) : Dm (l.take n) := fun c hc => h c (List.mem_of_mem_take hc)
theorem Mk.code {s : ByteArray} (h : Mk s) {m : Nat} (hm : m < s.size) : s[m].toNat = 88 ∨ 48 ≤ s[m].toNat ∧ s[m].toNat ≤ 57 := by
  have := (h.ok.take (s.size - m)) s[m].toNat (by rw [codes_snoc hm]; simp)
  exact this
theorem ten_le {j : Nat} (h : j ≤ 18) : 10 ^ j ≤ 1000000000000000000 := by
  have : 10 ^ j ≤ 10 ^ 18 := Nat.pow_le_pow_right (by decide) h
  have h2 : (10 : Nat) ^ 18 = 1000000000000000000 := by decide
  omega
theorem Mk.cnt_le {s : ByteArray} (h : Mk s) : cnt (codes s) ≤ 1000000000000000000 := by
  have h1 := Go.Proofs.Ytabhfpfnaaihjaa.cnt_le (codes s)
  rw [codes_len] at h1
  have := ten_le h.most
  omega

set_option maxHeartbeats 400000 in
theorem refCount_is {s : ByteArray} {c : Nat} (w : World) (h : Mk s) (hc : cnt (codes s) = c) :
    Calls Try.prog 12 #[.string s] w fun e w' => e = .returned (.int .i64 c) ∧ w = w' := by
  have H := Kp.mk h
  have HC := Kp.mk hc
  have b1 : (s.size : Int) ≤ 18 := by have := h.most; omega
  clear h hc
  go_enter Try.func12, Try.ntmps12
  go_wp2
  go_loop [3, 4] (fun n i => ∃ m v : Nat, m ≤ s.size ∧ n = .int .i64 v ∧ i = .int .i64 m ∧ Kp (v = cnt ((fwd s).take m))) (fun _ i => s.size - (intOf i).toNat)
  case atStart => exact ⟨0, 1, by omega, rfl, rfl, Kp.mk rfl⟩
  case round =>
    obtain ⟨m, v, hm, rfl, rfl, HV⟩ := hrel
    by_cases hlt : m < s.size
    · have hb : cnt ((fwd s).take (m + 1)) ≤ 1000000000000000000 := by
        have h1 := Go.Proofs.Ytabhfpfnaaihjaa.cnt_le ((fwd s).take (m + 1))
        rw [List.length_take, fwd_len] at h1
        have h2 := ten_le (show min (m + 1) s.size ≤ 18 by omega)
        omega
      have hs := fwd_snoc hlt
      rw [hs] at hb
      rw [cnt_snoc, ← HV.out] at hb
      have HB := Kp.mk hb
      have HS := Kp.mk hs
      clear hb hs
      go_wp2
      · rename_i hx
        go_round
        case rel =>
          have hx' : s[m].toNat = 88 := by simp only [beq_iff_eq] at hx; omega
          have hb := HB.out
          rw [if_pos hx'] at hb
          refine ⟨m + 1, v * 10, by omega, ?_, by go_num, Kp.mk (by rw [HS.out, cnt_snoc, if_pos hx', ← HV.out])⟩
          congr 1
          try unfold wrap64
          omega
        case measure => simp [intOf]; omega
      · rename_i hx
        go_round
        case rel =>
          have hx' : ¬ s[m].toNat = 88 := by simp only [beq_eq_false_iff_ne, ne_eq] at hx; omega
          exact ⟨m + 1, v, by omega, rfl, by go_num, Kp.mk (by rw [HS.out, cnt_snoc, if_neg hx', ← HV.out]; simp)⟩
        case measure => simp [intOf]; omega
    · have hms : m = s.size := by omega
      have hv := HV.out
      rw [hms, fwd_all, ← cnt_reverse] at hv
      have E := Kp.mk (hv.trans HC.out)
      clear hv
      go_wp2
      go_ret
      exact ⟨ret_int (by rw [E.out]), rfl⟩

theorem int_eq {a b : Int} (h : a = b) : Value.int .i64 a = Value.int .i64 b := by rw [h]
theorem w64 {z : Int} (h : -9223372036854775808 ≤ z) (h' : z ≤ 9223372036854775807) : wrap64 z = z := IntWalk.wrap64_in z ⟨h, h'⟩
set_option maxHeartbeats 1000000 in
theorem refNth_is {s : ByteArray} {i0 r0 : Nat} (w : World) (h : Mk s) (hi : (i0 : Int) ≤ 9223372036854775807) (hr : nth (codes s) i0 = r0) :
    Calls Try.prog 14 #[.string s, .int .i64 i0] w fun e w' => e = .returned (.int .i64 r0) ∧ w = w' := by
  have H := Kp.mk h
  have HR := Kp.mk hr
  have HI := Kp.mk hi
  have b1 : (s.size : Int) ≤ 18 := by have := h.most; omega
  clear h hr hi
  go_enter Try.func14, Try.ntmps14
  go_wp2
  go_loop [1, 5, 6, 7] (fun i n t k => ∃ m iv nv wv : Nat, m ≤ s.size ∧ i = .int .i64 iv ∧ n = .int .i64 nv ∧ t = .int .i64 wv ∧ k = .int .i64 ((m : Int) - 1) ∧ Kp (iv = i0 / cnt ((codes s).take (s.size - m)) ∧ nv = nth ((codes s).take (s.size - m)) i0 ∧ wv = 10 ^ (s.size - m))) (fun _ _ _ k => (intOf k + 1).toNat)
  case atStart => exact ⟨s.size, i0, 0, 1, by omega, rfl, rfl, rfl, rfl, Kp.mk ⟨by simp [cnt], by simp [nth], by simp⟩⟩
  case round =>
    obtain ⟨m1, iv, nv, wv, hm, rfl, rfl, rfl, rfl, HV⟩ := hrel
    by_cases h0 : m1 = 0
    · have hv := HV.out.2.1
      rw [h0, Nat.sub_zero, codes_all, HR.out] at hv
      have E := Kp.mk hv
      clear hv HV
      subst h0
      go_wp2
      go_ret
      exact ⟨ret_int (by rw [E.out]), rfl⟩
    · obtain ⟨m, rfl⟩ : ∃ m, m1 = m + 1 := ⟨m1 - 1, by omega⟩
      have hlt : m < s.size := by omega
      have hs := codes_snoc hlt
      have hcd := H.out.code hlt
      have hb : 10 ^ (s.size - (m + 1)) * 10 ≤ 1000000000000000000 := by
        rw [← Nat.pow_succ]; exact ten_le (by have := H.out.most; omega)
      have hn := nth_lt (H.out.ok.take (s.size - (m + 1))) i0
      rw [List.length_take, codes_len, show min (s.size - (m + 1)) s.size = s.size - (m + 1) by omega] at hn
      have hl : ((codes s).take (s.size - (m + 1))).length = s.size - (m + 1) := by rw [List.length_take, codes_len]; omega
      have HB := Kp.mk (And.intro hb (And.intro hn hcd))
      have HS := Kp.mk (And.intro hs hl)
      clear hb hs hn hl hcd
      go_wp2
      · rename_i hx
        go_round
        case rel =>
          have hx' : s[m].toNat = 88 := by simp only [beq_iff_eq] at hx; omega
          obtain ⟨v1, v2, v3⟩ := HV.out
          obtain ⟨q1, q2, _⟩ := HB.out
          rw [← v3] at q1
          rw [← v2, ← v3] at q2
          have q3 : wv * (iv % 10) ≤ wv * 9 := Nat.mul_le_mul_left _ (by omega)
          have q4 : (wv : Int) * ((iv : Int) % 10) = ((wv * (iv % 10) : Nat) : Int) := by rw [Int.natCast_mul]; congr 1
          have q7 : iv ≤ i0 := by rw [v1]; exact Nat.div_le_self _ _
          have q8 := HI.out
          refine ⟨m, iv / 10, nv + wv * (iv % 10), wv * 10, by omega, int_eq ?_, int_eq ?_, int_eq ?_, by go_num, Kp.mk ⟨?_, ?_, ?_⟩⟩
          · rw [w64 (by omega) (by omega)]; omega
          · obtain ⟨p, hp⟩ : ∃ p, p = wv * (iv % 10) := ⟨_, rfl⟩
            rw [q4, ← hp]
            rw [← hp] at q3
            rw [w64 (z := (p : Int)) (by omega) (by omega), w64 (by omega) (by omega)]; omega
          · rw [w64 (by omega) (by omega)]; omega
          · rw [HS.out.1, cnt_snoc, if_pos hx', v1, ← Nat.div_div_eq_div_mul]
          · rw [HS.out.1, nth_snoc, if_pos hx', HS.out.2, ← v1, ← v2, ← v3]
          · rw [show s.size - m = (s.size - (m + 1)) + 1 by omega, Nat.pow_succ, v3]
        case measure => simp [intOf]
      · rename_i hx
        go_round
        case rel =>
          have hx' : ¬ s[m].toNat = 88 := by simp only [beq_eq_false_iff_ne, ne_eq] at hx; omega
          obtain ⟨v1, v2, v3⟩ := HV.out
          obtain ⟨q1, q2, q5⟩ := HB.out
          have q5 := q5.resolve_left hx'
          rw [← v3] at q1
          rw [← v2, ← v3] at q2
          have q3 : wv * (s[m].toNat - 48) ≤ wv * 9 := Nat.mul_le_mul_left _ (by omega)
          have q6 : ((s[m].toNat : Int) - 48) % 256 = ((s[m].toNat - 48 : Nat) : Int) := by omega
          have q4 : (wv : Int) * ((s[m].toNat - 48 : Nat) : Int) = ((wv * (s[m].toNat - 48) : Nat) : Int) := by rw [Int.natCast_mul]
          refine ⟨m, iv, nv + wv * (s[m].toNat - 48), wv * 10, by omega, rfl, int_eq ?_, int_eq ?_, by go_num, Kp.mk ⟨?_, ?_, ?_⟩⟩
          · obtain ⟨p, hp⟩ : ∃ p, p = wv * (s[m].toNat - 48) := ⟨_, rfl⟩
            rw [q6, q4, ← hp]
            rw [← hp] at q3
            rw [w64 (z := (p : Int)) (by omega) (by omega), w64 (by omega) (by omega)]; omega
          · rw [w64 (by omega) (by omega)]; omega
          · rw [HS.out.1, cnt_snoc, if_neg hx', Nat.mul_one, v1]
          · rw [HS.out.1, nth_snoc, if_neg hx', HS.out.2, ← v2, ← v3]
          · rw [show s.size - m = (s.size - (m + 1)) + 1 by omega, Nat.pow_succ, v3]
        case measure => simp [intOf]
end Go.Proofs.Ytabhfpfnaaihjaa
