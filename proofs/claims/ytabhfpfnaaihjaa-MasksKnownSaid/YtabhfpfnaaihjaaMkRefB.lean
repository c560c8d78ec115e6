/-
  DERIVED. CONTRACTS of the reference of layer 3 (masks): Has, Below, Next, Prev, Check.
-/
import Derived.Test.YtabhfpfnaaihjaaMkRef
namespace Go.Proofs.Ytabhfpfnaaihjaa
open Go.RowKit

set_option maxHeartbeats 1000000 in
theorem refHas_neg {s : ByteArray} {n : Int} (w : World) (hn : n < 0) :
    Calls Try.prog 20 #[.string s, .int .i64 n] w fun e w' => e = .returned (.bool false) ∧ w = w' := by
  go_enter Try.func20, Try.ntmps20
  go_wp2
  go_ret
  exact ⟨rfl, rfl⟩
set_option maxHeartbeats 1000000 in
theorem refHas_nat {s : ByteArray} {n0 : Nat} {b : Bool} (w : World) (h : Mk s) (hi : (n0 : Int) ≤ 9223372036854775807) (hb : hasN (codes s) n0 = b) :
    Calls Try.prog 20 #[.string s, .int .i64 n0] w fun e w' => e = .returned (.bool b) ∧ w = w' := by
  have H := Kp.mk h
  have HB := Kp.mk hb
  have HI := Kp.mk hi
  have b1 : (s.size : Int) ≤ 18 := by have := h.most; omega
  clear h hb hi
  go_enter Try.func20, Try.ntmps20
  go_wp2
  go_loop [1, 5] (fun n k => ∃ m nv : Nat, m ≤ s.size ∧ n = .int .i64 nv ∧ k = .int .i64 ((m : Int) - 1) ∧ Kp (nv = n0 / 10 ^ (s.size - m) ∧ fits ((codes s).take (s.size - m)) n0 = true)) (fun _ k => (intOf k + 1).toNat)
  case atStart => exact ⟨s.size, n0, by omega, rfl, rfl, Kp.mk ⟨by simp, by simp [fits]⟩⟩
  case round =>
    obtain ⟨m1, nv, hm, rfl, rfl, HV⟩ := hrel
    by_cases h0 : m1 = 0
    · have hv := HV.out
      rw [h0, Nat.sub_zero, codes_all] at hv
      have E := Kp.mk (show ((nv : Int) == 0) = b by
        rw [← HB.out]; unfold hasN
        rw [hv.2, codes_len, ← hv.1, Bool.true_and]
        by_cases e : nv = 0
        · subst e; rfl
        · rw [beq_eq_false_iff_ne.2 e, beq_eq_false_iff_ne.2 (by omega)])
      clear hv HV
      subst h0
      go_wp2
      go_ret
      exact ⟨ret_bool E.out, rfl⟩
    · obtain ⟨m, rfl⟩ : ∃ m, m1 = m + 1 := ⟨m1 - 1, by omega⟩
      have hlt : m < s.size := by omega
      have hs := codes_snoc hlt
      have hcd := H.out.code hlt
      have hl : ((codes s).take (s.size - (m + 1))).length = s.size - (m + 1) := by rw [List.length_take, codes_len]; omega
      have hf := fits_snoc ((codes s).take (s.size - (m + 1))) s[m].toNat n0
      rw [← hs, HV.out.2, Bool.true_and, hl, ← HV.out.1] at hf
      have hp : nv / 10 = n0 / 10 ^ (s.size - m) := by rw [HV.out.1, Nat.div_div_eq_div_mul, ← Nat.pow_succ]; congr 2; omega
      have hnv : nv ≤ n0 := by rw [HV.out.1]; exact Nat.div_le_self _ _
      have hcast : (((s[m].toNat : Int) - 48) % 256 != (nv : Int) % 10) = !(s[m].toNat - 48 == nv % 10) ∨ s[m].toNat = 88 := by
        rcases hcd with c | c
        · exact .inr c
        · left
          by_cases e : s[m].toNat - 48 = nv % 10
          · rw [beq_iff_eq.2 e, bne_eq_false_iff_eq.2 (by omega)]; rfl
          · rw [beq_eq_false_iff_ne.2 e, bne_iff_ne.2 (by omega)]; rfl
      by_cases hx : s[m].toNat = 88
      · have e1 : ((s[m].toNat : Int) != 88) = false := by rw [bne_eq_false_iff_eq]; omega
        have hf2 : fits ((codes s).take (s.size - m)) n0 = true := by rw [hf, beq_iff_eq.2 hx]; rfl
        have HF := Kp.mk (And.intro hf2 (And.intro hp hnv))
        clear hs hcd hl hf hp hnv hcast hx hf2
        go_wp2
        go_round
        case rel =>
          refine ⟨m, nv / 10, by omega, int_eq ?_, by go_num, Kp.mk ⟨HF.out.2.1, HF.out.1⟩⟩
          have := HF.out.2.2
          have := HI.out
          rw [w64 (by omega) (by omega)]; omega
        case measure => simp [intOf]
      · have hc := hcast.resolve_right hx
        have e1 : ((s[m].toNat : Int) != 88) = true := by rw [bne_iff_ne]; omega
        by_cases hm2 : s[m].toNat - 48 = nv % 10
        · have e2 : (((s[m].toNat : Int) - 48) % 256 != (nv : Int) % 10) = false := by rw [hc, beq_iff_eq.2 hm2]; rfl
          have hf2 : fits ((codes s).take (s.size - m)) n0 = true := by rw [hf, beq_iff_eq.2 hm2]; simp
          have HF := Kp.mk (And.intro hf2 (And.intro hp hnv))
          clear hs hcd hl hf hp hnv hcast hx hf2 hc hm2
          go_wp2
          go_round
          case rel =>
            refine ⟨m, nv / 10, by omega, int_eq ?_, by go_num, Kp.mk ⟨HF.out.2.1, HF.out.1⟩⟩
            have := HF.out.2.2
            have := HI.out
            rw [w64 (by omega) (by omega)]; omega
          case measure => simp [intOf]
        · have e2 : (((s[m].toNat : Int) - 48) % 256 != (nv : Int) % 10) = true := by rw [hc, beq_eq_false_iff_ne.2 hm2]; rfl
          have hf2 : fits ((codes s).take (s.size - m)) n0 = false := by rw [hf, beq_eq_false_iff_ne.2 hm2, beq_eq_false_iff_ne.2 hx]; rfl
          have HF := Kp.mk (show false = b by rw [← HB.out]; unfold hasN; rw [fits_take hf2]; rfl)
          clear hs hcd hl hf hp hnv hcast hx hf2 hc hm2
          go_wp2
          go_ret
          exact ⟨ret_bool HF.out, rfl⟩
theorem refHas_is {s : ByteArray} {n : Int} {b : Bool} (w : World) (h : Mk s) (hi : n ≤ 9223372036854775807) (hb : hasI (codes s) n = b) :
    Calls Try.prog 20 #[.string s, .int .i64 n] w fun e w' => e = .returned (.bool b) ∧ w = w' := by
  by_cases hn : n < 0
  · have : b = false := by rw [← hb]; unfold hasI; rw [decide_eq_false (by omega)]; rfl
    subst this
    exact refHas_neg w hn
  · obtain ⟨k, rfl⟩ := Int.eq_ofNat_of_zero_le (show 0 ≤ n by omega)
    exact refHas_nat w h hi (by rw [← hb]; unfold hasI; rw [decide_eq_true (by omega)]; rfl)
theorem intOf_int (k : IntKind) (n : Int) : intOf (.int k n) = n := rfl
set_option maxHeartbeats 1000000 in
theorem refBelow_is {s : ByteArray} {n : Int} {b : Nat} (w : World) (h : Mk s) (hb : Blw (codes s) n b) :
    Calls Try.prog 22 #[.string s, .int .i64 n] w fun e w' => e = .returned (.int .i64 b) ∧ w = w' := by
  have H := Kp.mk h
  have HB := Kp.mk hb
  have HC := Kp.mk (fun w => refCount_is (c := cnt (codes s)) w h rfl)
  have HN := Kp.mk (fun (w : World) (i : Nat) (hi : (i : Int) ≤ 9223372036854775807) => refNth_is (r0 := nth (codes s) i) w h hi rfl)
  have hle := Kp.mk h.cnt_le
  clear h hb
  go_enter Try.func22, Try.ntmps22
  go_wp2_with fail
  refine (HC.out _).mono ?_
  rintro e w' ⟨rfl, rfl⟩
  go_wp2_with fail
  go_loop [5, 6] (fun x y => ∃ a t : Nat, x = .int .i64 a ∧ y = .int .i64 t ∧ Kp (a ≤ t ∧ t ≤ cnt (codes s) ∧ (∀ i, i < a → (nth (codes s) i : Int) < n) ∧ (∀ i, t ≤ i → i < cnt (codes s) → n ≤ (nth (codes s) i : Int)))) (fun x y => (intOf y - intOf x).toNat)
  case atStart => exact ⟨0, cnt (codes s), rfl, rfl, Kp.mk ⟨by omega, by omega, by omega, by omega⟩⟩
  case round =>
    obtain ⟨a, t, rfl, rfl, HV⟩ := hrel
    by_cases hlt : a < t
    · obtain ⟨v1, v2, v3, v4⟩ := HV.out
      have hl := hle.out
      obtain ⟨mid, hmid⟩ : ∃ mid, mid = a + (t - a) / 2 := ⟨_, rfl⟩
      have q1 : wrap64 ((a : Int) + wrap64 ((wrap64 ((t : Int) - (a : Int))).tdiv 2)) = (mid : Int) := by
        rw [w64 (z := (t : Int) - a) (by omega) (by omega), Int.tdiv_eq_ediv_of_nonneg (by omega), w64 (z := ((t : Int) - a) / 2) (by omega) (by omega), w64 (by omega) (by omega)]; omega
      have hN := Kp.mk (fun w => HN.out w mid (by omega))
      obtain ⟨v, hv⟩ : ∃ v, nth (codes s) mid = v := ⟨_, rfl⟩
      rw [hv] at hN
      have HF := Kp.mk (show a ≤ mid ∧ mid < t ∧ t ≤ cnt (codes s) ∧ cnt (codes s) ≤ 1000000000000000000 ∧ nth (codes s) mid = v from ⟨by omega, by omega, v2, hl, hv⟩)
      clear v1 v2 v3 v4 hl hv hmid
      have Q1 := Kp.mk q1
      clear q1
      go_wp2_with fail
      rw [Q1.out]
      refine (hN.out _).mono ?_
      rintro e w' ⟨rfl, rfl⟩
      by_cases hvn : (v : Int) < n
      · have e1 : decide ((v : Int) < n) = true := decide_eq_true hvn
        have HX := Kp.mk hvn
        clear hvn Q1 hN HN
        go_wp2
        go_round
        case rel =>
          obtain ⟨f1, f2, f3, f4, f5⟩ := HF.out
          obtain ⟨v1, v2, v3, v4⟩ := HV.out
          have hx := HX.out
          rw [← f5] at hx
          refine ⟨mid + 1, t, int_eq ?_, rfl, Kp.mk ⟨by omega, f3, fun i hi => ?_, v4⟩⟩
          · rw [w64 (by omega) (by omega)]; omega
          · by_cases e : i = mid
            · rw [e]; exact hx
            · have := @nth_mono (codes s) i mid (by omega) (by omega); omega
        case measure =>
          obtain ⟨f1, f2, f3, f4, f5⟩ := HF.out
          rw [intOf_int, intOf_int, intOf_int, w64 (by omega) (by omega)]; omega
      · have e1 : decide ((v : Int) < n) = false := decide_eq_false hvn
        have HX := Kp.mk hvn
        clear hvn Q1 hN HN
        go_wp2
        go_round
        case rel =>
          obtain ⟨f1, f2, f3, f4, f5⟩ := HF.out
          obtain ⟨v1, v2, v3, v4⟩ := HV.out
          have hx := HX.out
          rw [← f5] at hx
          refine ⟨a, mid, rfl, rfl, Kp.mk ⟨f1, by omega, v3, fun i hi hc => ?_⟩⟩
          by_cases e : i = mid
          · rw [e]; omega
          · have := @nth_mono (codes s) mid i (by omega) hc; omega
        case measure =>
          obtain ⟨f1, f2, f3, f4, f5⟩ := HF.out
          rw [intOf_int, intOf_int, intOf_int]; omega
    · have hat : a = b := by
        obtain ⟨v1, v2, v3, v4⟩ := HV.out
        exact blw_uniq ⟨by omega, v3, fun i hi hc => v4 i (by omega) hc⟩ HB.out
      subst hat
      go_wp2
      go_ret
      exact ⟨rfl, rfl⟩
/-- the least number of the mask that is at least n; the greatest one that is at most n: by the index below -/
def nextR (l : List Nat) (b : Nat) : Int × Bool := if b = cnt l then (0, false) else ((nth l b : Int), true)
def prevR (l : List Nat) (n : Int) (b : Nat) : Int × Bool :=
  if b < cnt l ∧ (nth l b : Int) = n then (n, true) else if b = 0 then (0, false) else ((nth l (b - 1) : Int), true)
theorem refNext_is {s : ByteArray} {n r : Int} {b : Nat} {c : Bool} (w : World) (h : Mk s) (hb : Blw (codes s) n b) (hr : nextR (codes s) b = (r, c)) :
    Calls Try.prog 26 #[.string s, .int .i64 n] w fun e w' => e = .returned (.tuple #[.int .i64 r, .bool c]) ∧ w = w' := by
  have hle := h.cnt_le
  have hbc := hb.1
  have H1 := Kp.mk (fun w => refBelow_is w h hb)
  have H2 := Kp.mk (fun w => refCount_is (c := cnt (codes s)) w h rfl)
  have H3 := Kp.mk (fun w => refNth_is (i0 := b) (r0 := nth (codes s) b) w h (by omega) rfl)
  unfold nextR at hr
  clear h hb hle hbc
  generalize cnt (codes s) = k at *
  by_cases e : b = k
  · rw [if_pos e] at hr
    have e1 : ((b : Int) == (k : Int)) = true := by rw [e]; simp
    have HR := Kp.mk hr
    clear hr e
    go_enter Try.func26, Try.ntmps26
    go_wp2_with fail
    refine (H1.out _).mono ?_
    rintro e w' ⟨rfl, rfl⟩
    go_wp2_with fail
    refine (H2.out _).mono ?_
    rintro e w' ⟨rfl, rfl⟩
    go_wp2
    go_ret2
    have hh := HR.out
    simp only [Prod.mk.injEq] at hh
    obtain ⟨rfl, rfl⟩ := hh
    exact ⟨rfl, rfl⟩
  · rw [if_neg e] at hr
    have e1 : ((b : Int) == (k : Int)) = false := by rw [beq_eq_false_iff_ne]; omega
    have HR := Kp.mk hr
    clear hr e
    go_enter Try.func26, Try.ntmps26
    go_wp2_with fail
    refine (H1.out _).mono ?_
    rintro e w' ⟨rfl, rfl⟩
    go_wp2_with fail
    refine (H2.out _).mono ?_
    rintro e w' ⟨rfl, rfl⟩
    go_wp2_with fail
    refine (H3.out _).mono ?_
    rintro e w' ⟨rfl, rfl⟩
    go_wp2
    go_ret2
    have hh := HR.out
    simp only [Prod.mk.injEq] at hh
    obtain ⟨rfl, rfl⟩ := hh
    exact ⟨rfl, rfl⟩
theorem refPrev_is {s : ByteArray} {n r : Int} {b : Nat} {c : Bool} (w : World) (h : Mk s) (hb : Blw (codes s) n b) (hr : prevR (codes s) n b = (r, c)) :
    Calls Try.prog 27 #[.string s, .int .i64 n] w fun e w' => e = .returned (.tuple #[.int .i64 r, .bool c]) ∧ w = w' := by
  have hle := h.cnt_le
  have hbc := hb.1
  have H1 := Kp.mk (fun w => refBelow_is w h hb)
  have H2 := Kp.mk (fun w => refCount_is (c := cnt (codes s)) w h rfl)
  have H3 := Kp.mk (fun w => refNth_is (i0 := b) (r0 := nth (codes s) b) w h (by omega) rfl)
  have H4 := Kp.mk (fun w => refNth_is (i0 := b - 1) (r0 := nth (codes s) (b - 1)) w h (by omega) rfl)
  unfold prevR at hr
  have hw64 : ¬ b = 0 → wrap64 ((b : Int) - 1) = ((b - 1 : Nat) : Int) := fun hb0 => by rw [w64 (by omega) (by omega)]; omega
  have HW := Kp.mk hw64
  clear h hb hle hbc hw64
  generalize cnt (codes s) = k at *
  generalize nth (codes s) b = x at *
  generalize nth (codes s) (b - 1) = y at *
  have back : ∀ (w : World) (hno : ¬ (b < k ∧ (x : Int) = n)) (e0 : (b < k ∧ ((x : Int) == n) = false) ∨ ¬ b < k), Calls Try.prog 27 #[.string s, .int .i64 n] w fun e w' => e = .returned (.tuple #[.int .i64 r, .bool c]) ∧ w = w' := by
    intro w hno e0
    rw [if_neg hno] at hr
    clear hno
    by_cases hz : b = 0
    · rw [if_pos hz] at hr
      have HR := Kp.mk hr
      subst hz
      clear hr
      rcases e0 with ⟨e0, e1⟩ | e0
      · go_enter Try.func27, Try.ntmps27
        go_wp2_with fail
        refine (H1.out _).mono ?_
        rintro e w' ⟨rfl, rfl⟩
        go_wp2_with fail
        refine (H2.out _).mono ?_
        rintro e w' ⟨rfl, rfl⟩
        go_wp2_with fail
        refine (H3.out _).mono ?_
        rintro e w' ⟨rfl, rfl⟩
        go_wp2
        go_ret2
        have hh := HR.out
        simp only [Prod.mk.injEq] at hh
        obtain ⟨rfl, rfl⟩ := hh
        exact ⟨rfl, rfl⟩
      · go_enter Try.func27, Try.ntmps27
        go_wp2_with fail
        refine (H1.out _).mono ?_
        rintro e w' ⟨rfl, rfl⟩
        go_wp2_with fail
        refine (H2.out _).mono ?_
        rintro e w' ⟨rfl, rfl⟩
        go_wp2
        go_ret2
        have hh := HR.out
        simp only [Prod.mk.injEq] at hh
        obtain ⟨rfl, rfl⟩ := hh
        exact ⟨rfl, rfl⟩
    · rw [if_neg hz] at hr
      have HR := Kp.mk hr
      have e2 : ((b : Int) == 0) = false := by rw [beq_eq_false_iff_ne]; omega
      have HZ := Kp.mk hz
      clear hr hz
      rcases e0 with ⟨e0, e1⟩ | e0
      · go_enter Try.func27, Try.ntmps27
        go_wp2_with fail
        refine (H1.out _).mono ?_
        rintro e w' ⟨rfl, rfl⟩
        go_wp2_with fail
        refine (H2.out _).mono ?_
        rintro e w' ⟨rfl, rfl⟩
        go_wp2_with fail
        refine (H3.out _).mono ?_
        rintro e w' ⟨rfl, rfl⟩
        go_wp2_with fail
        rw [HW.out HZ.out]
        refine (H4.out _).mono ?_
        rintro e w' ⟨rfl, rfl⟩
        go_wp2
        go_ret2
        have hh := HR.out
        simp only [Prod.mk.injEq] at hh
        obtain ⟨rfl, rfl⟩ := hh
        exact ⟨rfl, rfl⟩
      · go_enter Try.func27, Try.ntmps27
        go_wp2_with fail
        refine (H1.out _).mono ?_
        rintro e w' ⟨rfl, rfl⟩
        go_wp2_with fail
        refine (H2.out _).mono ?_
        rintro e w' ⟨rfl, rfl⟩
        go_wp2_with fail
        rw [HW.out HZ.out]
        refine (H4.out _).mono ?_
        rintro e w' ⟨rfl, rfl⟩
        go_wp2
        go_ret2
        have hh := HR.out
        simp only [Prod.mk.injEq] at hh
        obtain ⟨rfl, rfl⟩ := hh
        exact ⟨rfl, rfl⟩
  by_cases e : b < k
  · by_cases g : (x : Int) = n
    · rw [if_pos ⟨e, g⟩] at hr
      have e2 : ((x : Int) == n) = true := by rw [g]; simp
      have HR := Kp.mk hr
      clear hr g back
      go_enter Try.func27, Try.ntmps27
      go_wp2_with fail
      refine (H1.out _).mono ?_
      rintro e w' ⟨rfl, rfl⟩
      go_wp2_with fail
      refine (H2.out _).mono ?_
      rintro e w' ⟨rfl, rfl⟩
      go_wp2_with fail
      refine (H3.out _).mono ?_
      rintro e w' ⟨rfl, rfl⟩
      go_wp2
      go_ret2
      have hh := HR.out
      simp only [Prod.mk.injEq] at hh
      obtain ⟨rfl, rfl⟩ := hh
      exact ⟨rfl, rfl⟩
    · exact back w (fun c => g c.2) (.inl ⟨e, by rw [beq_eq_false_iff_ne]; exact g⟩)
  · exact back w (fun c => e c.1) (.inr e)
end Go.Proofs.Ytabhfpfnaaihjaa
