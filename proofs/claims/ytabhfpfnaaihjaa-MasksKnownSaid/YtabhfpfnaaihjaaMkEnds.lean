/-
  DERIVED. CONTRACTS of package masks: ends, Least, Greatest, Count.
-/
import Derived.Test.YtabhfpfnaaihjaaMkChk
import Derived.OwnWalk
namespace Go.Proofs.Ytabhfpfnaaihjaa
open Go.RowKit

set_option maxHeartbeats 1000000 in
theorem ends_is {s : ByteArray} {lo hi : Nat} (w : World) (hs : Mk s) (h0 : nth (codes s) 0 = lo) (h9 : nth (codes s) (cnt (codes s) - 1) = hi) :
    Calls Try.prog 35 #[.string s] w fun e w' => e = .returned (.tuple #[.int .i64 lo, .int .i64 hi, .int .i64 0]) ∧ Below w.heap.size w w' := by
  have hm := hs.most
  have e0 : vlF (flF s 0 s.size) s.size = lo := by rw [least_vl s.size (Nat.le_refl _) (fun j hj => by unfold flF; rw [if_pos hj]), pre_all, h0]
  have e9 : vlF (flF s 9 s.size) s.size = hi := by rw [greatest_vl s.size (Nat.le_refl _) (fun j hj => by unfold flF; rw [if_pos hj]), pre_all, h9]
  have d9 : ∀ g, g ≤ 9 → ∀ k, flF s g s.size k ≤ 9 := fun g hg k => by
    unfold flF
    split
    · exact fl_le (cd_ok hs ‹_›) hg
    · omega
  have r1 := Kp.mk (fun w => check_any w (by omega) (check_of_mk hs))
  have r2 := Kp.mk (fun w => filled_is (g := 0) w hs)
  have r3 := Kp.mk (fun w => number_is w hm (d9 0 (by omega)) e0)
  have r4 := Kp.mk (fun w => filled_is (g := 9) w hs)
  have r5 := Kp.mk (fun w => number_is w hm (d9 9 (by omega)) e9)
  have HB := Kp.mk (Below.refl w.heap.size w)
  clear e0 e9 d9 h0 h9 hs hm
  go_enter Try.func35, Try.ntmps35
  go_wp2_with fail
  refine (r1.out _).mono ?_
  rintro e w1 ⟨rfl, hbl⟩
  have HB := Kp.mk (HB.out.trans (hbl.mono HB.out.size))
  clear hbl
  go_wp2_with fail
  refine (r2.out _).mono ?_
  rintro e w1 ⟨rfl, hbl⟩
  have HB := Kp.mk (HB.out.trans (hbl.mono HB.out.size))
  clear hbl
  go_wp2_with fail
  refine (r3.out _).mono ?_
  rintro e w1 ⟨rfl, hbl⟩
  have HB := Kp.mk (HB.out.trans (hbl.mono HB.out.size))
  clear hbl
  go_wp2_with fail
  refine (r4.out _).mono ?_
  rintro e w1 ⟨rfl, hbl⟩
  have HB := Kp.mk (HB.out.trans (hbl.mono HB.out.size))
  clear hbl
  go_wp2_with fail
  refine (r5.out _).mono ?_
  rintro e w1 ⟨rfl, hbl⟩
  have HB := Kp.mk (HB.out.trans (hbl.mono HB.out.size))
  clear hbl
  go_wp2_with fail
  go_ret3
  exact ⟨rfl, HB.out⟩
set_option maxHeartbeats 1000000 in
theorem ends_bad {s : ByteArray} {c : Int} (w : World) (hs : s.size ≤ 1000) (hc : checkI s = c) (h0 : ¬ c = 0) :
    Calls Try.prog 35 #[.string s] w fun e w' => e = .returned (.tuple #[.int .i64 0, .int .i64 0, .int .i64 c]) ∧ Below w.heap.size w w' := by
  have t : (c != 0) = true := by rw [bne_iff_ne]; exact h0
  have r1 := Kp.mk (fun w => check_any w hs hc)
  clear h0 hc
  go_enter Try.func35, Try.ntmps35
  go_wp2_with fail
  refine (r1.out _).mono ?_
  rintro e w1 ⟨rfl, hbl⟩
  have HB := Kp.mk hbl
  clear hbl
  go_wp2_with fail
  go_ret3
  exact ⟨rfl, HB.out⟩
theorem p_ends {s : ByteArray} {lo hi : Nat} {c : Int} (w : World) (H : ∀ w, Calls Try.prog 35 #[.string s] w fun e w' => e = .returned (.tuple #[.int .i64 lo, .int .i64 hi, .int .i64 c]) ∧ Below w.heap.size w w') :
    (Calls Try.prog 10 #[.string s] w fun e w' => e = .returned (.tuple #[.int .i64 lo, .int .i64 c]) ∧ Below w.heap.size w w') ∧
    (Calls Try.prog 11 #[.string s] w fun e w' => e = .returned (.tuple #[.int .i64 hi, .int .i64 c]) ∧ Below w.heap.size w w') := by
  have r1 := Kp.mk H
  clear H
  constructor
  · go_enter Try.func10, Try.ntmps10
    go_wp2_with fail
    refine (r1.out _).mono ?_
    rintro e w1 ⟨rfl, hbl⟩
    have HB := Kp.mk hbl
    clear hbl
    go_wp2_with fail
    go_ret2
    exact ⟨rfl, HB.out⟩
  · go_enter Try.func11, Try.ntmps11
    go_wp2_with fail
    refine (r1.out _).mono ?_
    rintro e w1 ⟨rfl, hbl⟩
    have HB := Kp.mk hbl
    clear hbl
    go_wp2_with fail
    go_ret2
    exact ⟨rfl, HB.out⟩
def two (a e : Int) : Value := .tuple #[.int .i64 a, .int .i64 e]
theorem pow10_le (k : Nat) (h : k ≤ 18) : (1 : Int) ≤ 10 ^ k ∧ (10 : Int) ^ k ≤ 1000000000000000000 := by
  have h1 : (10 : Nat) ^ k ≤ 10 ^ 18 := Nat.pow_le_pow_right (by decide) h
  have h2 : 0 < (10 : Nat) ^ k := Nat.pos_of_ne_zero (by simp)
  have h3 : ((10 ^ k : Nat) : Int) = (10 : Int) ^ k := by simp
  rw [← h3]; omega
def p10 (k : Nat) : Int := 10 ^ k
theorem p10_succ (k : Nat) : p10 (k + 1) = p10 k * 10 := by unfold p10; rw [Int.pow_succ]
theorem p10_le (k : Nat) (h : k ≤ 18) : 1 ≤ p10 k ∧ p10 k ≤ 1000000000000000000 := pow10_le k h
set_option maxHeartbeats 400000 in
theorem pow10_any (n : Nat) (w : World) (h : n ≤ 18) :
    Calls Try.prog 33 #[.int .i64 n] w fun e w' => e = .returned (two (p10 n) 0) ∧ w = w' := by
  go_enter Try.func33, Try.ntmps33
  go_wp2
  go_loop [4, 10] (fun p i => ∃ k : Nat, k ≤ n ∧ i = .int .i64 k ∧ p = .int .i64 (p10 k)) (fun _ i => n - (intOf i).toNat)
  case atStart => exact ⟨0, by omega, rfl, rfl⟩
  case round =>
    obtain ⟨k, hk, rfl, rfl⟩ := hrel
    by_cases hlt : k < n
    · have hs := p10_succ k
      have h1 := p10_le k (by omega)
      have hb : -9223372036854775808 ≤ p10 k * 10 ∧ p10 k * 10 ≤ 9223372036854775807 := by have := p10_le (k+1) (by omega); omega
      obtain ⟨hb1, hb2⟩ := hb
      have HS := Kp.mk hs; clear hs h1
      go_wp2
      go_round
      case rel => exact ⟨k + 1, by omega, by go_num, by rw [HS.out]⟩
      case measure => simp [intOf]; omega
    · have e : k = n := by omega
      have E := Kp.mk e; clear e
      go_wp2
      go_ret2
      exact ⟨by rw [← E.out]; rfl, rfl⟩
set_option maxHeartbeats 1000000 in
theorem strCount_is {s : ByteArray} {n : Nat} (w : World) (h : s.data.toList.count 88 = n) :
    Calls Try.prog 34 #[.string s, .string ⟨#[88]⟩] w fun e w' => e = .returned (.int .i64 n) ∧ w = w' := by
  have HN := Kp.mk h
  clear h
  have hx : ∀ w, (callFunc 41 #[.string s, .int .u8 88]).run Try.prog w = .ok (.value (.int .i64 n)) w := fun w => by
    rw [run_callFunc_extern Try.func41 (by kernel_rfl) (by kernel_rfl) (by kernel_rfl) (e := Extern.BytealgCount.count) (by kernel_rfl), Lib.run_countString]
    simp only [Result.andThen]
    rw [← HN.out]; rfl
  go_enter Try.func34, Try.ntmps34
  go_wp2_with fail
  rw [show ((((⟨#[88]⟩ : ByteArray)[0]'(by decide)).toNat : Nat) : Int) = 88 from rfl, hx]
  rw [Oper.upon_value]
  go_wp2_with fail
  go_ret
  exact ⟨rfl, rfl⟩
theorem cnt_count (l : List UInt8) : ((10 : Nat) ^ (l.count 88)) = cnt ((l.map (·.toNat)).reverse) := by
  rw [cnt_reverse]
  induction l with
  | nil => rfl
  | cons a r ih =>
    simp only [List.map_cons, cnt]
    rw [← ih, List.count_cons]
    by_cases e : a = 88
    · subst e; simp [Nat.pow_succ]; omega
    · have : ¬ a.toNat = 88 := fun x => e (UInt8.toNat_inj.1 x)
      rw [if_neg this]
      simp [e]
set_option maxHeartbeats 1000000 in
theorem count_is {s : ByteArray} {c : Nat} (w : World) (hs : Mk s) (hc : cnt (codes s) = c) :
    Calls Try.prog 9 #[.string s] w fun e w' => e = .returned (.tuple #[.int .i64 c, .int .i64 0]) ∧ Below w.heap.size w w' := by
  obtain ⟨k, hk⟩ : ∃ k, s.data.toList.count 88 = k := ⟨_, rfl⟩
  have hk18 : k ≤ 18 := by
    have h1 := List.count_le_length (a := (88 : UInt8)) (l := s.data.toList)
    have h2 := hs.most
    have h3 : s.data.toList.length = s.size := by rw [Array.length_toList]; rfl
    omega
  have hp : p10 k = (c : Int) := by
    have := cnt_count s.data.toList
    rw [hk] at this
    unfold p10
    rw [← hc]
    unfold codes fwd
    rw [← this]
    simp
  have r1 := Kp.mk (fun w => check_any w (by have := hs.most; omega) (check_of_mk hs))
  have r2 := Kp.mk (fun w => strCount_is w hk)
  have r3 : Kp (∀ w, Calls Try.prog 33 #[.int .i64 k] w fun e w' => e = .returned (.tuple #[.int .i64 (c : Int), .int .i64 0]) ∧ w = w') := Kp.mk (fun w => by
    have := pow10_any k w hk18
    rw [hp] at this
    exact this)
  clear hs hc hk hk18 hp
  go_enter Try.func9, Try.ntmps9
  go_wp2_with fail
  refine (r1.out _).mono ?_
  rintro e w1 ⟨rfl, hbl⟩
  have HB := Kp.mk hbl
  clear hbl
  go_wp2_with fail
  refine (r2.out _).mono ?_
  rintro e w' ⟨rfl, rfl⟩
  go_wp2_with fail
  refine (r3.out _).mono ?_
  rintro e w' ⟨rfl, rfl⟩
  go_wp2_with fail
  go_ret2
  exact ⟨rfl, HB.out⟩
set_option maxHeartbeats 1000000 in
theorem count_bad {s : ByteArray} {c : Int} (w : World) (hs : s.size ≤ 1000) (hc : checkI s = c) (h0 : ¬ c = 0) :
    Calls Try.prog 9 #[.string s] w fun e w' => e = .returned (.tuple #[.int .i64 0, .int .i64 c]) ∧ Below w.heap.size w w' := by
  have t : (c != 0) = true := by rw [bne_iff_ne]; exact h0
  have r1 := Kp.mk (fun w => check_any w hs hc)
  clear h0 hc
  go_enter Try.func9, Try.ntmps9
  go_wp2_with fail
  refine (r1.out _).mono ?_
  rintro e w1 ⟨rfl, hbl⟩
  have HB := Kp.mk hbl
  clear hbl
  go_wp2_with fail
  go_ret2
  exact ⟨rfl, HB.out⟩
end Go.Proofs.Ytabhfpfnaaihjaa
