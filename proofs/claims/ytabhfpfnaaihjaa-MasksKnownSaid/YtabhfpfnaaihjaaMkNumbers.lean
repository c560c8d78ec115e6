/-
  DERIVED. WALK of the law MasksNumbers, given the contracts of package masks. Written by mkmknumbers.py.
-/
import Derived.Test.YtabhfpfnaaihjaaMkNext
namespace Go.Proofs.Ytabhfpfnaaihjaa
open Go.RowKit

/-- what package masks gives for masks: the numbers by their indices -/
structure MaskNums : Prop where
  count : ∀ {s : ByteArray} {c : Nat} (w : World), Mk s → cnt (codes s) = c →
    Calls Try.prog 9 #[.string s] w fun e w' => e = .returned (.tuple #[.int .i64 c, .int .i64 0]) ∧ Below w.heap.size w w'
  least : ∀ {s : ByteArray} {c : Nat} (w : World), Mk s → nth (codes s) 0 = c →
    Calls Try.prog 10 #[.string s] w fun e w' => e = .returned (.tuple #[.int .i64 c, .int .i64 0]) ∧ Below w.heap.size w w'
  greatest : ∀ {s : ByteArray} {c : Nat} (w : World), Mk s → nth (codes s) (cnt (codes s) - 1) = c →
    Calls Try.prog 11 #[.string s] w fun e w' => e = .returned (.tuple #[.int .i64 c, .int .i64 0]) ∧ Below w.heap.size w w'
  check : ∀ {s : ByteArray} (w : World), Mk s → Calls Try.prog 15 #[.string s] w fun e w' => e = .returned (.int .i64 0) ∧ Below w.heap.size w w'
  nth_in : ∀ {s : ByteArray} {i c : Nat} (w : World), Mk s → i < cnt (codes s) → nth (codes s) i = c →
    Calls Try.prog 16 #[.string s, .int .i64 i] w fun e w' => e = .returned (.tuple #[.int .i64 c, .int .i64 0]) ∧ Below w.heap.size w w'
  nth_out : ∀ {s : ByteArray} {i : Int} (w : World), Mk s → -9223372036854775808 ≤ i → i ≤ 9223372036854775807 → (i < 0 ∨ (cnt (codes s) : Int) ≤ i) →
    Calls Try.prog 16 #[.string s, .int .i64 i] w fun e w' => e = .returned (.tuple #[.int .i64 0, .int .i64 4]) ∧ Below w.heap.size w w'
  index_in : ∀ {s : ByteArray} {n : Int} {b : Nat} (w : World), Mk s → -9223372036854775808 ≤ n → n ≤ 9223372036854775807 → hasI (codes s) n = true → Blw (codes s) n b →
    Calls Try.prog 18 #[.string s, .int .i64 n] w fun e w' => e = .returned (.tuple #[.int .i64 b, .int .i64 0]) ∧ Below w.heap.size w w'
  index_out : ∀ {s : ByteArray} {n : Int} (w : World), Mk s → -9223372036854775808 ≤ n → n ≤ 9223372036854775807 → hasI (codes s) n = false →
    Calls Try.prog 18 #[.string s, .int .i64 n] w fun e w' => e = .returned (.tuple #[.int .i64 0, .int .i64 16]) ∧ Below w.heap.size w w'
theorem blw_nth {l : List Nat} {i : Nat} (hi : i < cnt l) : Blw l (nth l i : Int) i := by
  refine ⟨by omega, fun j hj => ?_, fun j hj hc => ?_⟩
  · have := @nth_mono l j i hj hi; omega
  · by_cases e : i = j
    · rw [e]; omega
    · have := @nth_mono l i j (by omega) hc; omega
theorem has_nth {l : List Nat} (hd : Dm l) {i : Nat} (hi : i < cnt l) : hasI l (nth l i : Int) = true := by
  unfold hasI
  rw [decide_eq_true (by omega), Bool.true_and, (hasN_iff hd _).2 ⟨i, hi, by omega⟩]
theorem nth_i64 {s : ByteArray} (h : Mk s) (i : Nat) : nth (codes s) i < 1000000000000000000 := by
  have h1 := nth_lt h.ok i
  rw [codes_len] at h1
  have := ten_le h.most
  omega
theorem numB_self (a : Int) : numB a 0 a = true := by unfold numB; simp
theorem givesB_in (a : Int) : givesB a 0 a true 16 = true := by unfold givesB; simp
theorem givesB_out (a : Int) : givesB 0 16 a false 16 = true := by unfold givesB; rfl
set_option maxRecDepth 100000 in
set_option maxHeartbeats 4000000 in
theorem lawNumbers_any (C : MaskFns) (D : MaskNums) {p : Option Addr} {len cap : Nat} {z : Nat → Int} (i n : Int) (w : World) (hl : (len : Int) ≤ 9223372036854775807) (hr : RowU8 w p len z)
    (i0 : -9223372036854775808 ≤ i) (i1 : i ≤ 9223372036854775807) (n0 : -9223372036854775808 ≤ n) (n1 : n ≤ 9223372036854775807) :
    Calls Try.prog 3 #[.agg #[.slice p len cap], .int .i64 i, .int .i64 n] w fun e w' => e = .returned (.bool true) ∧ Below w.heap.size w w' := by
  have HR := Kp.mk hr
  have HL := Kp.mk hl
  have HC := Kp.mk C
  have HD := Kp.mk D
  have HNK := Kp.mk (And.intro (And.intro i0 i1) (And.intro n0 n1))
  clear hr hl C D i0 i1 n0 n1
  go_enter Try.func3, Try.ntmps3
  go_wp2_with fail
  refine (of_any _ HL.out (HR.out.alloc _)).mono ?_
  rintro e w1 ⟨s, hs, rfl, hbel⟩
  have HB := Kp.mk (((Below.refl w.heap.size w).alloc (Nat.le_refl _) _).trans (hbel.mono (by simp)))
  clear hbel
  obtain ⟨b, hb⟩ := blw_exists (codes s) n
  obtain ⟨ct, ect⟩ : ∃ x, cnt (codes s) = x := ⟨_, rfl⟩
  obtain ⟨lo, elo⟩ : ∃ x, nth (codes s) 0 = x := ⟨_, rfl⟩
  obtain ⟨hi, ehi⟩ : ∃ x, nth (codes s) (cnt (codes s) - 1) = x := ⟨_, rfl⟩
  obtain ⟨hn, ehn⟩ : ∃ x, hasI (codes s) n = x := ⟨_, rfl⟩
  have hcp := cnt_pos (codes s)
  have hcm := hs.cnt_le
  obtain ⟨⟨i0, i1⟩, n0, n1⟩ := HNK.out
  have h1 := Kp.mk (fun w => HD.out.count w hs ect)
  have h2 := Kp.mk (fun w => HD.out.least w hs elo)
  have h3 := Kp.mk (fun w => HD.out.greatest w hs ehi)
  have h4 := Kp.mk (fun w => refCount_is w hs ect)
  have h5 := Kp.mk (fun w => num_is w (numB_self (ct : Int)))
  have h6 := Kp.mk (fun w => refNth_is (i0 := 0) w hs (by decide) elo)
  have h7 := Kp.mk (fun w => num_is w (numB_self (lo : Int)))
  have h8 : Kp (∀ w, Calls Try.prog 14 #[.string s, .int .i64 ((ct : Int) - 1)] w fun e w' => e = .returned (.int .i64 hi) ∧ w = w') := Kp.mk (fun w => by
    have e : ((ct : Int) - 1) = ((cnt (codes s) - 1 : Nat) : Int) := by omega
    rw [e]; exact refNth_is w hs (by omega) ehi)
  have h9 := Kp.mk (fun w => num_is w (numB_self (hi : Int)))
  have h10 := Kp.mk (fun w => HD.out.check w hs)
  have hw1 : IntKind.i64.wrap ((ct : Int) - 1) = (ct : Int) - 1 := by rw [← ect]; exact IntWalk.i64_in _ (by omega)
  have hRH := Kp.mk (fun w => refHas_is w hs n1 ehn)
  have hMH := Kp.mk (fun w => HC.out.has w hs n0 n1 ehn)
  have hRB := Kp.mk (fun w => refBelow_is w hs hb)
  have HS := Kp.mk (And.intro hs (And.intro n0 (And.intro n1 (And.intro ehn hb))))
  by_cases t : 0 ≤ i ∧ i < (ct : Int)
  · obtain ⟨t1, t2⟩ := t
    obtain ⟨j, rfl⟩ := Int.eq_ofNat_of_zero_le t1
    have hj : j < cnt (codes s) := by omega
    obtain ⟨at_, eat⟩ : ∃ x, nth (codes s) j = x := ⟨_, rfl⟩
    have hl64 := nth_i64 hs j
    have k1 := Kp.mk (fun w => HD.out.nth_in w hs hj eat)
    have k2 := Kp.mk (fun w => refNth_is w hs (by omega) eat)
    have k3 := Kp.mk (fun w => num_is w (numB_self (at_ : Int)))
    have k4 := Kp.mk (fun w => HD.out.index_in w hs (n := (at_ : Int)) (by omega) (by omega) (by rw [← eat]; exact has_nth hs.ok hj) (by rw [← eat]; exact blw_nth hj))
    have k5 := Kp.mk (fun w => num_is w (numB_self (j : Int)))
    have k6 := Kp.mk (fun w => HC.out.has w hs (n := (at_ : Int)) (c := true) (by omega) (by omega) (by rw [← eat]; exact has_nth hs.ok hj))
    clear hs hb ect elo ehi ehn hcp hcm i0 i1 n0 n1 hj eat hl64
    go_wp2_with fail
    refine (h1.out _).mono ?_
    rintro e w' ⟨rfl, hbl⟩
    have HB := Kp.mk (HB.out.trans (hbl.mono HB.out.size))
    clear hbl
    go_wp2_with fail
    refine (h2.out _).mono ?_
    rintro e w' ⟨rfl, hbl⟩
    have HB := Kp.mk (HB.out.trans (hbl.mono HB.out.size))
    clear hbl
    go_wp2_with fail
    refine (h3.out _).mono ?_
    rintro e w' ⟨rfl, hbl⟩
    have HB := Kp.mk (HB.out.trans (hbl.mono HB.out.size))
    clear hbl
    go_wp2_with fail
    refine (h4.out _).mono ?_
    rintro e w' ⟨rfl, rfl⟩
    go_wp2_with fail
    refine (h5.out _).mono ?_
    rintro e w' ⟨rfl, rfl⟩
    go_wp2_with fail
    refine (h6.out _).mono ?_
    rintro e w' ⟨rfl, rfl⟩
    go_wp2_with fail
    refine (h7.out _).mono ?_
    rintro e w' ⟨rfl, rfl⟩
    go_wp2_with fail
    refine (h8.out _).mono ?_
    rintro e w' ⟨rfl, rfl⟩
    go_wp2_with fail
    refine (h9.out _).mono ?_
    rintro e w' ⟨rfl, rfl⟩
    go_wp2_with fail
    refine (h10.out _).mono ?_
    rintro e w' ⟨rfl, hbl⟩
    have HB := Kp.mk (HB.out.trans (hbl.mono HB.out.size))
    clear hbl
    go_wp2_with fail
    refine (k1.out _).mono ?_
    rintro e w' ⟨rfl, hbl⟩
    have HB := Kp.mk (HB.out.trans (hbl.mono HB.out.size))
    clear hbl
    go_wp2_with fail
    refine (k2.out _).mono ?_
    rintro e w' ⟨rfl, rfl⟩
    go_wp2_with fail
    refine (k3.out _).mono ?_
    rintro e w' ⟨rfl, rfl⟩
    go_wp2_with fail
    refine (k4.out _).mono ?_
    rintro e w' ⟨rfl, hbl⟩
    have HB := Kp.mk (HB.out.trans (hbl.mono HB.out.size))
    clear hbl
    go_wp2_with fail
    refine (k5.out _).mono ?_
    rintro e w' ⟨rfl, rfl⟩
    go_wp2_with fail
    refine (k6.out _).mono ?_
    rintro e w' ⟨rfl, hbl⟩
    have HB := Kp.mk (HB.out.trans (hbl.mono HB.out.size))
    clear hbl
    go_wp2_with fail
    cases hn
    · have hIX := Kp.mk (fun w => HD.out.index_out w HS.out.1 HS.out.2.1 HS.out.2.2.1 HS.out.2.2.2.1)
      have hG := Kp.mk (fun w => gives_is w (givesB_out (b : Int)))
      refine (hRH.out _).mono ?_
      rintro e w' ⟨rfl, rfl⟩
      go_wp2_with fail
      refine (hIX.out _).mono ?_
      rintro e w' ⟨rfl, hbl⟩
      have HB := Kp.mk (HB.out.trans (hbl.mono HB.out.size))
      clear hbl
      go_wp2_with fail
      refine (hMH.out _).mono ?_
      rintro e w' ⟨rfl, hbl⟩
      have HB := Kp.mk (HB.out.trans (hbl.mono HB.out.size))
      clear hbl
      go_wp2_with fail
      refine (hRB.out _).mono ?_
      rintro e w' ⟨rfl, rfl⟩
      go_wp2_with fail
      refine (hG.out _).mono ?_
      rintro e w' ⟨rfl, rfl⟩
      go_wp2_with fail
      refine (HC.out.lives _).mono ?_
      rintro e w' ⟨rfl, hbl⟩
      have HB2 := Kp.mk (HB.out.trans (hbl.mono HB.out.size))
      clear hbl
      go_wp2_with fail
      go_ret
      exact ⟨rfl, HB2.out⟩
    · have hIX := Kp.mk (fun w => HD.out.index_in w HS.out.1 HS.out.2.1 HS.out.2.2.1 HS.out.2.2.2.1 HS.out.2.2.2.2)
      have hG := Kp.mk (fun w => gives_is w (givesB_in (b : Int)))
      refine (hRH.out _).mono ?_
      rintro e w' ⟨rfl, rfl⟩
      go_wp2_with fail
      refine (hIX.out _).mono ?_
      rintro e w' ⟨rfl, hbl⟩
      have HB := Kp.mk (HB.out.trans (hbl.mono HB.out.size))
      clear hbl
      go_wp2_with fail
      refine (hMH.out _).mono ?_
      rintro e w' ⟨rfl, hbl⟩
      have HB := Kp.mk (HB.out.trans (hbl.mono HB.out.size))
      clear hbl
      go_wp2_with fail
      refine (hRB.out _).mono ?_
      rintro e w' ⟨rfl, rfl⟩
      go_wp2_with fail
      refine (hG.out _).mono ?_
      rintro e w' ⟨rfl, rfl⟩
      go_wp2_with fail
      refine (HC.out.lives _).mono ?_
      rintro e w' ⟨rfl, hbl⟩
      have HB2 := Kp.mk (HB.out.trans (hbl.mono HB.out.size))
      clear hbl
      go_wp2_with fail
      go_ret
      exact ⟨rfl, HB2.out⟩
  · have hio : i < 0 ∨ (cnt (codes s) : Int) ≤ i := by omega
    have k1 := Kp.mk (fun w => HD.out.nth_out w hs i0 i1 hio)
    have k2 := Kp.mk (fun w => bad_is (n := 0) (e := 4) (want := 4) (b := true) w (by decide))
    have tt : (0 ≤ i ∧ ¬ i < (ct : Int)) ∨ ¬ 0 ≤ i := by omega
    clear hs hb ect elo ehi ehn hcp hcm i0 i1 n0 n1 hio t
    rcases tt with ⟨t1, t2⟩ | t1
    · go_wp2_with fail
      refine (h1.out _).mono ?_
      rintro e w' ⟨rfl, hbl⟩
      have HB := Kp.mk (HB.out.trans (hbl.mono HB.out.size))
      clear hbl
      go_wp2_with fail
      refine (h2.out _).mono ?_
      rintro e w' ⟨rfl, hbl⟩
      have HB := Kp.mk (HB.out.trans (hbl.mono HB.out.size))
      clear hbl
      go_wp2_with fail
      refine (h3.out _).mono ?_
      rintro e w' ⟨rfl, hbl⟩
      have HB := Kp.mk (HB.out.trans (hbl.mono HB.out.size))
      clear hbl
      go_wp2_with fail
      refine (h4.out _).mono ?_
      rintro e w' ⟨rfl, rfl⟩
      go_wp2_with fail
      refine (h5.out _).mono ?_
      rintro e w' ⟨rfl, rfl⟩
      go_wp2_with fail
      refine (h6.out _).mono ?_
      rintro e w' ⟨rfl, rfl⟩
      go_wp2_with fail
      refine (h7.out _).mono ?_
      rintro e w' ⟨rfl, rfl⟩
      go_wp2_with fail
      refine (h8.out _).mono ?_
      rintro e w' ⟨rfl, rfl⟩
      go_wp2_with fail
      refine (h9.out _).mono ?_
      rintro e w' ⟨rfl, rfl⟩
      go_wp2_with fail
      refine (h10.out _).mono ?_
      rintro e w' ⟨rfl, hbl⟩
      have HB := Kp.mk (HB.out.trans (hbl.mono HB.out.size))
      clear hbl
      go_wp2_with fail
      refine (k1.out _).mono ?_
      rintro e w' ⟨rfl, hbl⟩
      have HB := Kp.mk (HB.out.trans (hbl.mono HB.out.size))
      clear hbl
      go_wp2_with fail
      refine (k2.out _).mono ?_
      rintro e w' ⟨rfl, rfl⟩
      go_wp2_with fail
      cases hn
      · have hIX := Kp.mk (fun w => HD.out.index_out w HS.out.1 HS.out.2.1 HS.out.2.2.1 HS.out.2.2.2.1)
        have hG := Kp.mk (fun w => gives_is w (givesB_out (b : Int)))
        refine (hRH.out _).mono ?_
        rintro e w' ⟨rfl, rfl⟩
        go_wp2_with fail
        refine (hIX.out _).mono ?_
        rintro e w' ⟨rfl, hbl⟩
        have HB := Kp.mk (HB.out.trans (hbl.mono HB.out.size))
        clear hbl
        go_wp2_with fail
        refine (hMH.out _).mono ?_
        rintro e w' ⟨rfl, hbl⟩
        have HB := Kp.mk (HB.out.trans (hbl.mono HB.out.size))
        clear hbl
        go_wp2_with fail
        refine (hRB.out _).mono ?_
        rintro e w' ⟨rfl, rfl⟩
        go_wp2_with fail
        refine (hG.out _).mono ?_
        rintro e w' ⟨rfl, rfl⟩
        go_wp2_with fail
        refine (HC.out.lives _).mono ?_
        rintro e w' ⟨rfl, hbl⟩
        have HB2 := Kp.mk (HB.out.trans (hbl.mono HB.out.size))
        clear hbl
        go_wp2_with fail
        go_ret
        exact ⟨rfl, HB2.out⟩
      · have hIX := Kp.mk (fun w => HD.out.index_in w HS.out.1 HS.out.2.1 HS.out.2.2.1 HS.out.2.2.2.1 HS.out.2.2.2.2)
        have hG := Kp.mk (fun w => gives_is w (givesB_in (b : Int)))
        refine (hRH.out _).mono ?_
        rintro e w' ⟨rfl, rfl⟩
        go_wp2_with fail
        refine (hIX.out _).mono ?_
        rintro e w' ⟨rfl, hbl⟩
        have HB := Kp.mk (HB.out.trans (hbl.mono HB.out.size))
        clear hbl
        go_wp2_with fail
        refine (hMH.out _).mono ?_
        rintro e w' ⟨rfl, hbl⟩
        have HB := Kp.mk (HB.out.trans (hbl.mono HB.out.size))
        clear hbl
        go_wp2_with fail
        refine (hRB.out _).mono ?_
        rintro e w' ⟨rfl, rfl⟩
        go_wp2_with fail
        refine (hG.out _).mono ?_
        rintro e w' ⟨rfl, rfl⟩
        go_wp2_with fail
        refine (HC.out.lives _).mono ?_
        rintro e w' ⟨rfl, hbl⟩
        have HB2 := Kp.mk (HB.out.trans (hbl.mono HB.out.size))
        clear hbl
        go_wp2_with fail
        go_ret
        exact ⟨rfl, HB2.out⟩
    · go_wp2_with fail
      refine (h1.out _).mono ?_
      rintro e w' ⟨rfl, hbl⟩
      have HB := Kp.mk (HB.out.trans (hbl.mono HB.out.size))
      clear hbl
      go_wp2_with fail
      refine (h2.out _).mono ?_
      rintro e w' ⟨rfl, hbl⟩
      have HB := Kp.mk (HB.out.trans (hbl.mono HB.out.size))
      clear hbl
      go_wp2_with fail
      refine (h3.out _).mono ?_
      rintro e w' ⟨rfl, hbl⟩
      have HB := Kp.mk (HB.out.trans (hbl.mono HB.out.size))
      clear hbl
      go_wp2_with fail
      refine (h4.out _).mono ?_
      rintro e w' ⟨rfl, rfl⟩
      go_wp2_with fail
      refine (h5.out _).mono ?_
      rintro e w' ⟨rfl, rfl⟩
      go_wp2_with fail
      refine (h6.out _).mono ?_
      rintro e w' ⟨rfl, rfl⟩
      go_wp2_with fail
      refine (h7.out _).mono ?_
      rintro e w' ⟨rfl, rfl⟩
      go_wp2_with fail
      refine (h8.out _).mono ?_
      rintro e w' ⟨rfl, rfl⟩
      go_wp2_with fail
      refine (h9.out _).mono ?_
      rintro e w' ⟨rfl, rfl⟩
      go_wp2_with fail
      refine (h10.out _).mono ?_
      rintro e w' ⟨rfl, hbl⟩
      have HB := Kp.mk (HB.out.trans (hbl.mono HB.out.size))
      clear hbl
      go_wp2_with fail
      refine (k1.out _).mono ?_
      rintro e w' ⟨rfl, hbl⟩
      have HB := Kp.mk (HB.out.trans (hbl.mono HB.out.size))
      clear hbl
      go_wp2_with fail
      refine (k2.out _).mono ?_
      rintro e w' ⟨rfl, rfl⟩
      go_wp2_with fail
      cases hn
      · have hIX := Kp.mk (fun w => HD.out.index_out w HS.out.1 HS.out.2.1 HS.out.2.2.1 HS.out.2.2.2.1)
        have hG := Kp.mk (fun w => gives_is w (givesB_out (b : Int)))
        refine (hRH.out _).mono ?_
        rintro e w' ⟨rfl, rfl⟩
        go_wp2_with fail
        refine (hIX.out _).mono ?_
        rintro e w' ⟨rfl, hbl⟩
        have HB := Kp.mk (HB.out.trans (hbl.mono HB.out.size))
        clear hbl
        go_wp2_with fail
        refine (hMH.out _).mono ?_
        rintro e w' ⟨rfl, hbl⟩
        have HB := Kp.mk (HB.out.trans (hbl.mono HB.out.size))
        clear hbl
        go_wp2_with fail
        refine (hRB.out _).mono ?_
        rintro e w' ⟨rfl, rfl⟩
        go_wp2_with fail
        refine (hG.out _).mono ?_
        rintro e w' ⟨rfl, rfl⟩
        go_wp2_with fail
        refine (HC.out.lives _).mono ?_
        rintro e w' ⟨rfl, hbl⟩
        have HB2 := Kp.mk (HB.out.trans (hbl.mono HB.out.size))
        clear hbl
        go_wp2_with fail
        go_ret
        exact ⟨rfl, HB2.out⟩
      · have hIX := Kp.mk (fun w => HD.out.index_in w HS.out.1 HS.out.2.1 HS.out.2.2.1 HS.out.2.2.2.1 HS.out.2.2.2.2)
        have hG := Kp.mk (fun w => gives_is w (givesB_in (b : Int)))
        refine (hRH.out _).mono ?_
        rintro e w' ⟨rfl, rfl⟩
        go_wp2_with fail
        refine (hIX.out _).mono ?_
        rintro e w' ⟨rfl, hbl⟩
        have HB := Kp.mk (HB.out.trans (hbl.mono HB.out.size))
        clear hbl
        go_wp2_with fail
        refine (hMH.out _).mono ?_
        rintro e w' ⟨rfl, hbl⟩
        have HB := Kp.mk (HB.out.trans (hbl.mono HB.out.size))
        clear hbl
        go_wp2_with fail
        refine (hRB.out _).mono ?_
        rintro e w' ⟨rfl, rfl⟩
        go_wp2_with fail
        refine (hG.out _).mono ?_
        rintro e w' ⟨rfl, rfl⟩
        go_wp2_with fail
        refine (HC.out.lives _).mono ?_
        rintro e w' ⟨rfl, hbl⟩
        have HB2 := Kp.mk (HB.out.trans (hbl.mono HB.out.size))
        clear hbl
        go_wp2_with fail
        go_ret
        exact ⟨rfl, HB2.out⟩
end Go.Proofs.Ytabhfpfnaaihjaa
