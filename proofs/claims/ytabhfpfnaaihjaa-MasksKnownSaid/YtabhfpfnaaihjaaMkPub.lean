/-
  DERIVED. CONTRACTS of package masks: Next, Prev, Has.
-/
import Derived.Test.YtabhfpfnaaihjaaMkNearD
namespace Go.Proofs.Ytabhfpfnaaihjaa
open Go.RowKit

theorem mk_lt {s : ByteArray} (hs : Mk s) {n : Nat} (h : hasN (codes s) n = true) : n < 10 ^ s.size := by
  obtain ⟨i, _, rfl⟩ := (hasN_iff hs.ok n).1 h
  have := nth_lt hs.ok i
  rw [codes_len] at this
  exact this
theorem nth_hasN {s : ByteArray} (hs : Mk s) {i : Nat} (hi : i < cnt (codes s)) : hasN (codes s) (nth (codes s) i) = true := (hasN_iff hs.ok _).2 ⟨i, hi, rfl⟩
theorem nth_le {l : List Nat} {i k : Nat} (h : i ≤ k) (hk : k < cnt l) : nth l i ≤ nth l k := by
  by_cases e : i = k
  · rw [e]; omega
  · have := @nth_mono l i k (by omega) hk; omega
/-- the next number, and the one before, by their properties -/
theorem next_of {s : ByteArray} (hs : Mk s) {n : Int} {b : Nat} (hb : Blw (codes s) n b) {m : Nat} (h0 : n ≤ m) (hm : ∀ x, hasN (codes s) x = true → n ≤ (x : Int) → m ≤ x) (hlt : b < cnt (codes s)) : UpR s m (nth (codes s) b) := by
  refine ⟨nth_hasN hs hlt, ?_, fun x hx hmx => ?_⟩
  · exact hm _ (nth_hasN hs hlt) (hb.2.2 b (Nat.le_refl _) hlt)
  · obtain ⟨i, hi, rfl⟩ := (hasN_iff hs.ok x).1 hx
    by_cases e : b ≤ i
    · exact nth_le e hi
    · have := hb.2.1 i (by omega)
      omega
/-- the index of the greatest number that is at most n -/
theorem prev_of {s : ByteArray} (hs : Mk s) {n : Int} {c : Nat} (hc : c < cnt (codes s)) (h1 : (nth (codes s) c : Int) ≤ n) (h2 : ∀ i, c < i → i < cnt (codes s) → n < (nth (codes s) i : Int)) {m : Nat} (h0 : (m : Int) ≤ n) (hm : ∀ x, hasN (codes s) x = true → (x : Int) ≤ n → x ≤ m) : DnR s m (nth (codes s) c) := by
  refine ⟨nth_hasN hs hc, hm _ (nth_hasN hs hc) h1, fun x hx hmx => ?_⟩
  obtain ⟨i, hi, rfl⟩ := (hasN_iff hs.ok x).1 hx
  by_cases e : i ≤ c
  · exact nth_le e hc
  · have := h2 i (by omega) hi
    omega
theorem max_int (a b : Int) : (if a < b then b else a) = max a b := by omega
set_option maxHeartbeats 1000000 in
theorem next_is {s : ByteArray} {n u : Int} {b : Nat} {c : Bool} (w : World) (hs : Mk s) (n0 : -9223372036854775808 ≤ n) (n1 : n ≤ 9223372036854775807) (hb : Blw (codes s) n b) (hr : nextR (codes s) b = (u, c)) :
    Calls Try.prog 24 #[.string s, .int .i64 n] w fun e w' => e = .returned (.tuple #[.int .i64 u, .int .i64 (if c then 0 else 16)]) ∧ Below w.heap.size w w' := by
  obtain ⟨lo, hlo⟩ : ∃ x, nth (codes s) 0 = x := ⟨_, rfl⟩
  obtain ⟨hi, hhi⟩ : ∃ x, nth (codes s) (cnt (codes s) - 1) = x := ⟨_, rfl⟩
  have hp := cnt_pos (codes s)
  have r1 := Kp.mk (fun w => ends_is w hs hlo hhi)
  by_cases hgt : (hi : Int) < n
  · have hbc : b = cnt (codes s) := by
      by_cases e : b = cnt (codes s)
      · exact e
      · have := hb.2.2 (cnt (codes s) - 1) (by have := hb.1; omega) (by omega)
        omega
    unfold nextR at hr
    rw [if_pos hbc] at hr
    cases hr
    clear hb hbc hp hlo hhi hs
    go_enter Try.func24, Try.ntmps24
    go_wp2_with fail
    refine (r1.out _).mono ?_
    rintro e w1 ⟨rfl, hbl⟩
    have HB := Kp.mk hbl
    clear hbl
    go_wp2_with fail
    go_ret2
    exact ⟨rfl, HB.out⟩
  · have hbc : b < cnt (codes s) := by
      by_cases e : b < cnt (codes s)
      · exact e
      · have := hb.2.1 (cnt (codes s) - 1) (by have := hb.1; omega)
        omega
    unfold nextR at hr
    rw [if_neg (by omega)] at hr
    cases hr
    obtain ⟨m, hm⟩ : ∃ m : Nat, max n (lo : Int) = (m : Int) := ⟨(max n (lo : Int)).toNat, by omega⟩
    have hlox : ∀ x, hasN (codes s) x = true → lo ≤ x := fun x hx => by
      obtain ⟨i, hi, rfl⟩ := (hasN_iff hs.ok x).1 hx
      rw [← hlo]; exact nth_le (Nat.zero_le _) hi
    have hU := next_of hs hb (m := m) (by omega) (fun x hx hnx => by have := hlox x hx; omega) hbc
    have hhas := nth_hasN hs (show cnt (codes s) - 1 < cnt (codes s) by omega)
    rw [hhi] at hhas
    have hlohi : lo ≤ hi := hlox _ hhas
    have hmh : m ≤ hi := by omega
    have hlt := mk_lt hs hhas
    obtain ⟨u, hu⟩ : ∃ x, nth (codes s) b = x := ⟨_, rfl⟩
    rw [hu] at hU ⊢
    have r2 := Kp.mk (fun w => nearUp_is w hs (show m < 10 ^ s.size by omega) ⟨hi, hhas, hmh⟩ hU)
    have hmx : (if n < (lo : Int) then (lo : Int) else n) = (m : Int) := by rw [max_int]; exact hm
    clear hb hbc hp hlo hhi hs hU hlox hhas hlohi hmh hlt hu
    go_enter Try.func24, Try.ntmps24
    go_wp2_with fail
    refine (r1.out _).mono ?_
    rintro e w1 ⟨rfl, hbl⟩
    have HB := Kp.mk hbl
    clear hbl
    go_wp2_with fail
    refine (r2.out _).mono ?_
    rintro e w2 ⟨rfl, hbl⟩
    have HB := Kp.mk (HB.out.trans (hbl.mono HB.out.size))
    clear hbl
    go_wp2_with fail
    go_ret2
    exact ⟨rfl, HB.out⟩
theorem prev_index {l : List Nat} {n u : Int} {b : Nat} {c : Bool} (hb : Blw l n b) (hr : prevR l n b = (u, c)) (h : (nth l 0 : Int) ≤ n) :
    c = true ∧ ∃ i, i < cnt l ∧ u = (nth l i : Int) ∧ (nth l i : Int) ≤ n ∧ ∀ j, i < j → j < cnt l → n < (nth l j : Int) := by
  have hp := cnt_pos l
  unfold prevR at hr
  by_cases g : b < cnt l ∧ (nth l b : Int) = n
  · rw [if_pos g] at hr
    cases hr
    refine ⟨rfl, b, g.1, g.2.symm, by omega, fun j h1 h2 => ?_⟩
    have := @nth_mono l b j h1 h2
    omega
  · rw [if_neg g] at hr
    have hb0 : ¬ b = 0 := fun e => by
      have := hb.2.2 0 (by omega) hp
      exact g ⟨by omega, by rw [e]; omega⟩
    rw [if_neg hb0] at hr
    cases hr
    have h1 := hb.1
    have h2 := hb.2.1 (b - 1) (by omega)
    refine ⟨rfl, b - 1, by omega, rfl, by omega, fun j h3 h4 => ?_⟩
    have h5 := hb.2.2 j (by omega) h4
    have h6 := hb.2.2 b (Nat.le_refl _) (by omega)
    have h7 : nth l b ≤ nth l j := nth_le (by omega) h4
    by_cases e : (nth l j : Int) = n
    · exact absurd ⟨by omega, by omega⟩ g
    · omega
set_option maxHeartbeats 1000000 in
theorem prev_is {s : ByteArray} {n u : Int} {b : Nat} {c : Bool} (w : World) (hs : Mk s) (n0 : -9223372036854775808 ≤ n) (n1 : n ≤ 9223372036854775807) (hb : Blw (codes s) n b) (hr : prevR (codes s) n b = (u, c)) :
    Calls Try.prog 25 #[.string s, .int .i64 n] w fun e w' => e = .returned (.tuple #[.int .i64 u, .int .i64 (if c then 0 else 16)]) ∧ Below w.heap.size w w' := by
  obtain ⟨lo, hlo⟩ : ∃ x, nth (codes s) 0 = x := ⟨_, rfl⟩
  obtain ⟨hi, hhi⟩ : ∃ x, nth (codes s) (cnt (codes s) - 1) = x := ⟨_, rfl⟩
  have hp := cnt_pos (codes s)
  have r1 := Kp.mk (fun w => ends_is w hs hlo hhi)
  by_cases hgt : n < (lo : Int)
  · have hbc : b = 0 := by
      by_cases e : b = 0
      · exact e
      · have := hb.2.1 0 (by omega)
        omega
    unfold prevR at hr
    rw [if_neg (by rw [hbc]; omega), if_pos hbc] at hr
    cases hr
    clear hb hbc hp hlo hhi hs
    go_enter Try.func25, Try.ntmps25
    go_wp2_with fail
    refine (r1.out _).mono ?_
    rintro e w1 ⟨rfl, hbl⟩
    have HB := Kp.mk hbl
    clear hbl
    go_wp2_with fail
    go_ret2
    exact ⟨rfl, HB.out⟩
  · obtain ⟨rfl, i, hi1, rfl, hi2, hi3⟩ := prev_index hb hr (by omega)
    obtain ⟨m, hm⟩ : ∃ m : Nat, min n (hi : Int) = (m : Int) := ⟨(min n (hi : Int)).toNat, by omega⟩
    have hhix : ∀ x, hasN (codes s) x = true → x ≤ hi := fun x hx => by
      obtain ⟨i, hi, rfl⟩ := (hasN_iff hs.ok x).1 hx
      rw [← hhi]; exact nth_le (by omega) (by omega)
    have hU := prev_of hs hi1 hi2 hi3 (m := m) (by omega) (fun x hx hnx => by have := hhix x hx; omega)
    have hhas := nth_hasN hs hp
    rw [hlo] at hhas
    have hlohi : lo ≤ hi := hhix _ hhas
    have hml : lo ≤ m := by omega
    have hmh : m ≤ hi := by omega
    have hhas2 := nth_hasN hs (show cnt (codes s) - 1 < cnt (codes s) by omega)
    rw [hhi] at hhas2
    have hlt := mk_lt hs hhas2
    obtain ⟨u, hu⟩ : ∃ x, nth (codes s) i = x := ⟨_, rfl⟩
    rw [hu] at hU ⊢
    have r2 := Kp.mk (fun w => nearDn_is w hs (show m < 10 ^ s.size by omega) ⟨lo, hhas, hml⟩ hU)
    have hmx : (if (hi : Int) < n then (hi : Int) else n) = (m : Int) := by omega
    clear hb hp hlo hhi hs hU hhix hhas hhas2 hlohi hml hmh hlt hu hr hi1 hi2 hi3
    go_enter Try.func25, Try.ntmps25
    go_wp2_with fail
    refine (r1.out _).mono ?_
    rintro e w1 ⟨rfl, hbl⟩
    have HB := Kp.mk hbl
    clear hbl
    go_wp2_with fail
    refine (r2.out _).mono ?_
    rintro e w2 ⟨rfl, hbl⟩
    have HB := Kp.mk (HB.out.trans (hbl.mono HB.out.size))
    clear hbl
    go_wp2_with fail
    go_ret2
    exact ⟨rfl, HB.out⟩
theorem next_bad {s : ByteArray} {n c : Int} (w : World) (hs : s.size ≤ 1000) (hc : checkI s = c) (h0 : ¬ c = 0) :
    Calls Try.prog 24 #[.string s, .int .i64 n] w fun e w' => e = .returned (.tuple #[.int .i64 0, .int .i64 c]) ∧ Below w.heap.size w w' := by
  have t : (c != 0) = true := by rw [bne_iff_ne]; exact h0
  have r1 := Kp.mk (fun w => ends_bad w hs hc h0)
  clear h0 hc
  go_enter Try.func24, Try.ntmps24
  go_wp2_with fail
  refine (r1.out _).mono ?_
  rintro e w1 ⟨rfl, hbl⟩
  have HB := Kp.mk hbl
  clear hbl
  go_wp2_with fail
  go_ret2
  exact ⟨rfl, HB.out⟩
theorem prev_bad {s : ByteArray} {n c : Int} (w : World) (hs : s.size ≤ 1000) (hc : checkI s = c) (h0 : ¬ c = 0) :
    Calls Try.prog 25 #[.string s, .int .i64 n] w fun e w' => e = .returned (.tuple #[.int .i64 0, .int .i64 c]) ∧ Below w.heap.size w w' := by
  have t : (c != 0) = true := by rw [bne_iff_ne]; exact h0
  have r1 := Kp.mk (fun w => ends_bad w hs hc h0)
  clear h0 hc
  go_enter Try.func25, Try.ntmps25
  go_wp2_with fail
  refine (r1.out _).mono ?_
  rintro e w1 ⟨rfl, hbl⟩
  have HB := Kp.mk hbl
  clear hbl
  go_wp2_with fail
  go_ret2
  exact ⟨rfl, HB.out⟩
theorem has_bad {s : ByteArray} {n c : Int} (w : World) (hs : s.size ≤ 1000) (hc : checkI s = c) (h0 : ¬ c = 0) :
    Calls Try.prog 19 #[.string s, .int .i64 n] w fun e w' => e = .returned (.bool false) ∧ Below w.heap.size w w' := by
  have t : (c == 0) = false := by rw [beq_eq_false_iff_ne]; exact h0
  have r1 := Kp.mk (fun w => next_bad (n := n) w hs hc h0)
  clear h0 hc
  go_enter Try.func19, Try.ntmps19
  go_wp2_with fail
  refine (r1.out _).mono ?_
  rintro e w1 ⟨rfl, hbl⟩
  have HB := Kp.mk hbl
  clear hbl
  go_wp2_with fail
  go_ret
  exact ⟨rfl, HB.out⟩
theorem has_is {s : ByteArray} {n : Int} {c : Bool} (w : World) (hs : Mk s) (n0 : -9223372036854775808 ≤ n) (n1 : n ≤ 9223372036854775807) (hc : hasI (codes s) n = c) :
    Calls Try.prog 19 #[.string s, .int .i64 n] w fun e w' => e = .returned (.bool c) ∧ Below w.heap.size w w' := by
  obtain ⟨b, hb⟩ := blw_exists (codes s) n
  obtain ⟨⟨u, d⟩, hu⟩ : ∃ x, nextR (codes s) b = x := ⟨_, rfl⟩
  have r1 := Kp.mk (fun w => next_is w hs n0 n1 hb hu)
  have hd : c = (d && (u == n)) := by
    rw [← hc, Bool.eq_iff_iff, Bool.and_eq_true, beq_iff_eq]
    constructor
    · intro h
      have a1 := next_least hs.ok hb hu h (Int.le_refl _)
      have a3 := next_there hb hu a1.1
      exact ⟨a1.1, by omega⟩
    · rintro ⟨rfl, rfl⟩
      unfold nextR at hu
      split at hu
      · cases hu
      · rename_i hne
        have hlt : b < cnt (codes s) := by have := hb.1; omega
        cases hu
        exact has_nth hs.ok hlt
  clear hc hu hb hs n0 n1
  subst hd
  cases d
  · go_enter Try.func19, Try.ntmps19
    go_wp2_with fail
    refine (r1.out _).mono ?_
    rintro e w1 ⟨rfl, hbl⟩
    have HB := Kp.mk hbl
    clear hbl
    go_wp2_with fail
    go_ret
    exact ⟨rfl, HB.out⟩
  · go_enter Try.func19, Try.ntmps19
    go_wp2_with fail
    refine (r1.out _).mono ?_
    rintro e w1 ⟨rfl, hbl⟩
    have HB := Kp.mk hbl
    clear hbl
    go_wp2_with fail
    go_ret
    exact ⟨rfl, HB.out⟩
end Go.Proofs.Ytabhfpfnaaihjaa
