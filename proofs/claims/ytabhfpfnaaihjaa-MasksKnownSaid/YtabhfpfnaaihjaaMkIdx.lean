/-
  DERIVED. CONTRACTS of package masks: Nth, Index.
-/
import Derived.Test.YtabhfpfnaaihjaaMkPub
namespace Go.Proofs.Ytabhfpfnaaihjaa
open Go.RowKit

/-- from a number of the first places on -/
def go_ (f : Nat → Nat) (v j : Nat) : Nat → Nat
  | 0 => v
  | m + 1 => 10 * go_ f v j m + f (j + m)
theorem go_front (f : Nat → Nat) (v p : Nat) : ∀ m, go_ f v p (m + 1) = go_ f (10 * v + f p) (p + 1) m
  | 0 => by simp [go_]
  | m + 1 => by
    have h := go_front f v p m
    simp only [go_] at h ⊢
    rw [h, show p + (m + 1) = p + 1 + m by omega]
theorem go_congr {f g : Nat → Nat} (v p : Nat) : ∀ m, (∀ k, p ≤ k → f k = g k) → go_ f v p m = go_ g v p m
  | 0, _ => rfl
  | m + 1, h => by simp only [go_]; rw [go_congr v p m h, h (p + m) (by omega)]
theorem go_vl (f : Nat → Nat) : ∀ m, go_ f 0 0 m = vlF f m
  | 0 => rfl
  | m + 1 => by simp only [go_, vlF]; rw [go_vl f m, Nat.zero_add]
set_option maxRecDepth 100000 in
set_option maxHeartbeats 2000000 in
theorem nth_is_in {s : ByteArray} {i c : Nat} (w : World) (hs : Mk s) (hi : i < cnt (codes s)) (hc : nth (codes s) i = c) :
    Calls Try.prog 16 #[.string s, .int .i64 i] w fun e w' => e = .returned (.tuple #[.int .i64 c, .int .i64 0]) ∧ Below w.heap.size w w' := by
  obtain ⟨n, hn⟩ : ∃ n, cnt (codes s) = n := ⟨_, rfl⟩
  have hcm := hs.cnt_le
  rw [hn] at hi hcm
  have r1 := Kp.mk (fun w => count_is w hs hn)
  have r2 := Kp.mk (fun w => filled_is (g := 0) w hs)
  have hm := hs.most
  have h1 := hs.one
  have ew : IntKind.i64.wrap ((s.size : Int) - 1) = (s.size : Int) - 1 := IntWalk.i64_in _ (by omega)
  have HC := Kp.mk hc
  have HS := Kp.mk hs
  have b1 : ¬ (i : Int) < 0 := by omega
  have b2 : ¬ (n : Int) ≤ (i : Int) := by omega
  have HI := Kp.mk (show i < 1000000000000000000 by omega)
  clear hc hs hi hn hcm
  go_enter Try.func16, Try.ntmps16
  go_wp2_with fail
  refine (r1.out _).mono ?_
  rintro e w1 ⟨rfl, hbl⟩
  have HB := Kp.mk hbl
  clear hbl
  go_wp2_with fail
  refine (r2.out _).mono ?_
  rintro e w2 ⟨rfl, hbl⟩
  have HB := Kp.mk (HB.out.trans (hbl.mono HB.out.size))
  clear hbl
  go_wp2_with (refine wpList_store_new rfl 58 (.tmp 8) (.tmp 26) rfl (cl (flF s 0 s.size)) rfl rfl 58 _ infoDg rfl (cl_one _) ?_)
  go_loopw [1, 9] (fun x pl wr => ∃ (j v : Nat) (f : Nat → Nat), j ≤ s.size ∧ x = .int .i64 v ∧ pl = .int .i64 ((j : Int) - 1) ∧ wr = w2.alloc (.cells (cl f) 58) ∧
    Kp ((∀ k, k < j → f k = flF s 0 s.size k) ∧ (∀ k, f k ≤ 9) ∧ go_ f (nth (pre s j) v) j (s.size - j) = c ∧ v < 1000000000000000000)) (fun _ pl _ => (intOf pl + 1).toNat)
  case atStart =>
    refine ⟨s.size, i, flF s 0 s.size, Nat.le_refl _, rfl, rfl, rfl, Kp.mk ⟨fun _ _ => rfl, fun k => ?_, ?_, HI.out⟩⟩
    · unfold flF
      split
      · exact fl_le (cd_ok HS.out ‹_›) (by omega)
      · omega
    · rw [Nat.sub_self, pre_all]; exact HC.out
  case round =>
    obtain ⟨j, v, f, hj, rfl, rfl, rfl, HK⟩ := hrel
    by_cases h0 : 0 < j
    · obtain ⟨p, rfl⟩ : ∃ p, j = p + 1 := ⟨j - 1, by omega⟩
      have ep : ((p + 1 : Nat) : Int) - 1 = (p : Int) := by omega
      rw [ep]
      have hps : p < s.size := by omega
      have hget := cl_get (f := f) (show p < 18 by omega)
      obtain ⟨q, hq⟩ : ∃ q, v / 10 = q := ⟨_, rfl⟩
      obtain ⟨r, hr⟩ : ∃ r, v % 10 = r := ⟨_, rfl⟩
      have hv18 := HK.out.2.2.2
      have hm1 : Int.tmod (v : Int) 10 = (r : Int) := by rw [Int.tmod_eq_emod_of_nonneg (by omega)]; omega
      have hm2 : Int.tdiv (v : Int) 10 = (q : Int) := by rw [Int.tdiv_eq_ediv_of_nonneg (by omega)]; omega
      have hw1 : IntKind.i64.wrap (r : Int) = (r : Int) := IntWalk.i64_in _ (by omega)
      have hw2 : IntKind.i64.wrap (q : Int) = (q : Int) := IntWalk.i64_in _ (by omega)
      have hsm : s.size - p = (s.size - (p + 1)) + 1 := by omega
      by_cases h88 : s[p].toNat = 88
      · have t1 : ((s[p].toNat : Int) == 88) = true := by rw [beq_iff_eq]; omega
        have HK2 : Kp ((∀ k, k < p → (fun k => if k = p then r else f k) k = flF s 0 s.size k) ∧ (∀ k, (fun k => if k = p then r else f k) k ≤ 9) ∧ go_ (fun k => if k = p then r else f k) (nth (pre s p) q) p (s.size - p) = c ∧ q < 1000000000000000000) := Kp.mk (by
          obtain ⟨k1, k2, k3, k4⟩ := HK.out
          refine ⟨fun k hk => by show (if k = p then r else f k) = _; rw [if_neg (by omega)]; exact k1 k (by omega), fun k => by show (if k = p then r else f k) ≤ 9; split; omega; exact k2 k, ?_, by omega⟩
          rw [hsm, go_front]
          show go_ (fun k => if k = p then r else f k) (10 * nth (pre s p) q + (if p = p then r else f p)) (p + 1) (s.size - (p + 1)) = c
          rw [if_pos rfl, go_congr (g := f) _ _ _ (fun k hk => by show (if k = p then r else f k) = f k; rw [if_neg (by omega)]), ← k3, pre_succ hps]
          congr 1
          simp only [nth]
          rw [cd_at hps, if_pos h88, hq, hr]; omega)
        have HS1 := Kp.mk (cl_set (f := f) (i := p) (v := r) (by omega))
        clear hq hr h88 hsm hv18
        go_wp2_with fail
        go_roundw
        case rel =>
          first
            | exact ⟨p, q, _, by omega, by go_num, by go_num, by rw [HS1.out], HK2⟩
            | ((repeat apply Exists.intro); exact ⟨⟨p, q, _, by omega, by go_num, by go_num, by rw [HS1.out], HK2⟩, rfl⟩)
        case measure => simp [intOf] <;> omega
      · have t1 : ((s[p].toNat : Int) == 88) = false := by rw [beq_eq_false_iff_ne]; omega
        have HK2 : Kp ((∀ k, k < p → f k = flF s 0 s.size k) ∧ (∀ k, f k ≤ 9) ∧ go_ f (nth (pre s p) v) p (s.size - p) = c ∧ v < 1000000000000000000) := Kp.mk (by
          obtain ⟨k1, k2, k3, k4⟩ := HK.out
          refine ⟨fun k hk => k1 k (by omega), k2, ?_, k4⟩
          rw [hsm, go_front, ← k3, pre_succ hps]
          congr 1
          simp only [nth]
          rw [k1 p (by omega), cd_at hps, if_neg h88]
          unfold flF fl
          rw [if_pos hps, cd_at hps, if_neg h88]; omega)
        clear hq hr h88 hsm hv18 hm1 hm2 hw1 hw2
        go_wp2_with fail
        go_roundw
        case rel =>
          first
            | exact ⟨p, v, _, by omega, by go_num, by go_num, rfl, HK2⟩
            | ((repeat apply Exists.intro); exact ⟨⟨p, v, _, by omega, by go_num, by go_num, rfl, HK2⟩, rfl⟩)
        case measure => simp [intOf] <;> omega
    · obtain rfl : j = 0 := by omega
      have hfin : vlF f s.size = c := by
        have := HK.out.2.2.1
        rw [pre_zero] at this
        rw [← go_vl, ← this]; rfl
      have r3 := Kp.mk (fun w => number_is w hm HK.out.2.1 hfin)
      clear hfin
      go_wp2_with (refine wpList_load_row rfl 58 (.tmp 8) rfl w2.heap.size rfl 58 (cl f) (0, 0) _ (heap_alloc_last _ _) Try.underlying58 rfl infoDg ?_)
      refine (r3.out _).mono ?_
      rintro e w3 ⟨rfl, hbl⟩
      have HB := Kp.mk ((HB.out.alloc HB.out.size _).trans (hbl.mono (by have := HB.out.size; simp; omega)))
      clear hbl
      go_wp2_with fail
      go_ret2
      exact ⟨rfl, HB.out⟩
set_option maxHeartbeats 1000000 in
theorem nth_is_out {s : ByteArray} {i : Int} (w : World) (hs : Mk s) (hio : i < 0 ∨ (cnt (codes s) : Int) ≤ i) :
    Calls Try.prog 16 #[.string s, .int .i64 i] w fun e w' => e = .returned (.tuple #[.int .i64 0, .int .i64 4]) ∧ Below w.heap.size w w' := by
  obtain ⟨n, hn⟩ : ∃ n, cnt (codes s) = n := ⟨_, rfl⟩
  rw [hn] at hio
  have r1 := Kp.mk (fun w => count_is w hs hn)
  clear hs hn
  by_cases h : i < 0
  · clear hio
    go_enter Try.func16, Try.ntmps16
    go_wp2_with fail
    refine (r1.out _).mono ?_
    rintro e w1 ⟨rfl, hbl⟩
    have HB := Kp.mk hbl
    clear hbl
    go_wp2_with fail
    go_ret2
    exact ⟨rfl, HB.out⟩
  · have b2 : (n : Int) ≤ i := by omega
    clear hio
    go_enter Try.func16, Try.ntmps16
    go_wp2_with fail
    refine (r1.out _).mono ?_
    rintro e w1 ⟨rfl, hbl⟩
    have HB := Kp.mk hbl
    clear hbl
    go_wp2_with fail
    go_ret2
    exact ⟨rfl, HB.out⟩
set_option maxHeartbeats 1000000 in
theorem nth_bad {s : ByteArray} {i c : Int} (w : World) (hs : s.size ≤ 1000) (hc : checkI s = c) (h0 : ¬ c = 0) :
    Calls Try.prog 16 #[.string s, .int .i64 i] w fun e w' => e = .returned (.tuple #[.int .i64 0, .int .i64 c]) ∧ Below w.heap.size w w' := by
  have t : (c != 0) = true := by rw [bne_iff_ne]; exact h0
  have r1 := Kp.mk (fun w => count_bad w hs hc h0)
  clear h0 hc
  go_enter Try.func16, Try.ntmps16
  go_wp2_with fail
  refine (r1.out _).mono ?_
  rintro e w1 ⟨rfl, hbl⟩
  have HB := Kp.mk hbl
  clear hbl
  go_wp2_with fail
  go_ret2
  exact ⟨rfl, HB.out⟩
set_option maxHeartbeats 1000000 in
theorem index_bad {s : ByteArray} {i c : Int} (w : World) (hs : s.size ≤ 1000) (hc : checkI s = c) (h0 : ¬ c = 0) :
    Calls Try.prog 18 #[.string s, .int .i64 i] w fun e w' => e = .returned (.tuple #[.int .i64 0, .int .i64 c]) ∧ Below w.heap.size w w' := by
  have t : (c != 0) = true := by rw [bne_iff_ne]; exact h0
  have r1 := Kp.mk (fun w => check_any w hs hc)
  clear h0 hc
  go_enter Try.func18, Try.ntmps18
  go_wp2_with fail
  refine (r1.out _).mono ?_
  rintro e w1 ⟨rfl, hbl⟩
  have HB := Kp.mk hbl
  clear hbl
  go_wp2_with fail
  go_ret2
  exact ⟨rfl, HB.out⟩
set_option maxHeartbeats 1000000 in
theorem index_is_out {s : ByteArray} {n : Int} (w : World) (hs : Mk s) (n0 : -9223372036854775808 ≤ n) (n1 : n ≤ 9223372036854775807) (hh : hasI (codes s) n = false) :
    Calls Try.prog 18 #[.string s, .int .i64 n] w fun e w' => e = .returned (.tuple #[.int .i64 0, .int .i64 16]) ∧ Below w.heap.size w w' := by
  have r1 := Kp.mk (fun w => check_any w (by have := hs.most; omega) (check_of_mk hs))
  have r2 := Kp.mk (fun w => has_is w hs n0 n1 hh)
  clear hs n0 n1 hh
  go_enter Try.func18, Try.ntmps18
  go_wp2_with fail
  refine (r1.out _).mono ?_
  rintro e w1 ⟨rfl, hbl⟩
  have HB := Kp.mk hbl
  clear hbl
  go_wp2_with fail
  refine (r2.out _).mono ?_
  rintro e w2 ⟨rfl, hbl⟩
  have HB := Kp.mk (HB.out.trans (hbl.mono HB.out.size))
  clear hbl
  go_wp2_with fail
  go_ret2
  exact ⟨rfl, HB.out⟩
/-- the index by the places -/
theorem idx_lt {s : ByteArray} (hs : Mk s) {n k : Nat} (h : hasN (codes s) n = true) (hk : k ≤ s.size) : idx (pre s k) (n / 10 ^ (s.size - k)) < 1000000000000000001 := by
  have h2 := has_pre s.size (Nat.le_refl _) n (by rw [pre_all]; exact h) k hk
  unfold hasN at h2
  rw [Bool.and_eq_true, beq_iff_eq] at h2
  have h3 := (has_idx _ h2.1 h2.2 (pre_ok hs k)).1
  have h4 := cnt_le (pre s k)
  rw [pre_len hk] at h4
  have := ten_le (show k ≤ 18 by have := hs.most; omega)
  omega
theorem idx_step {s : ByteArray} {n k : Nat} (hk : k < s.size) : idx (pre s (k + 1)) (n / 10 ^ (s.size - (k + 1))) = if cd s k = 88 then 10 * idx (pre s k) (n / 10 ^ (s.size - k)) + dgF n s.size 0 k else idx (pre s k) (n / 10 ^ (s.size - k)) := by
  have e1 : n / 10 ^ (s.size - k) = n / 10 ^ (s.size - (k + 1)) / 10 := by rw [div_pow_succ]; congr 2; omega
  rw [pre_succ hk, e1, dg_at hk]
  simp only [idx]
  split
  · omega
  · rfl
set_option maxRecDepth 100000 in
set_option maxHeartbeats 2000000 in
theorem index_is_in {s : ByteArray} {n : Int} {b : Nat} (w : World) (hs : Mk s) (n0 : -9223372036854775808 ≤ n) (n1 : n ≤ 9223372036854775807) (hh : hasI (codes s) n = true) (hb : Blw (codes s) n b) :
    Calls Try.prog 18 #[.string s, .int .i64 n] w fun e w' => e = .returned (.tuple #[.int .i64 b, .int .i64 0]) ∧ Below w.heap.size w w' := by
  have r1 := Kp.mk (fun w => check_any w (by have := hs.most; omega) (check_of_mk hs))
  have r2 := Kp.mk (fun w => has_is w hs n0 n1 hh)
  have hh2 := hh
  unfold hasI at hh2
  rw [Bool.and_eq_true, decide_eq_true_eq] at hh2
  obtain ⟨m, rfl⟩ := Int.eq_ofNat_of_zero_le hh2.1
  have hN : hasN (codes s) m = true := hh2.2
  have hlt := mk_lt hs hN
  have hm := hs.most
  have r3 := Kp.mk (fun w => digitsOf_is (n := m) w hs.one hm (by have := ten_le hm; omega))
  have hbi : idx (codes s) m = b := by
    have h2 := hN
    unfold hasN at h2
    rw [Bool.and_eq_true, beq_iff_eq] at h2
    have h3 := has_idx _ h2.1 h2.2 hs.ok
    have h4 := blw_nth h3.1
    rw [h3.2] at h4
    exact blw_uniq h4 hb
  have HX := Kp.mk (And.intro hs (And.intro hN hbi))
  clear hs n0 n1 hh hh2 hN hlt hbi hb
  go_enter Try.func18, Try.ntmps18
  go_wp2_with fail
  refine (r1.out _).mono ?_
  rintro e w1 ⟨rfl, hbl⟩
  have HB := Kp.mk hbl
  clear hbl
  go_wp2_with fail
  refine (r2.out _).mono ?_
  rintro e w2 ⟨rfl, hbl⟩
  have HB := Kp.mk (HB.out.trans (hbl.mono HB.out.size))
  clear hbl
  go_wp2_with fail
  refine (r3.out _).mono ?_
  rintro e w3 ⟨rfl, hbl⟩
  have HB := Kp.mk (HB.out.trans (hbl.mono HB.out.size))
  clear hbl
  go_wp2_with (refine wpList_store_new rfl 58 (.tmp 7) (.tmp 23) rfl (cl (dgF m s.size 0)) rfl rfl 58 _ infoDg rfl (cl_one _) ?_)
  go_loopw [8] (fun x wr => ∃ k y : Nat, k ≤ s.size ∧ x = .int .i64 y ∧ Kp (y = idx (pre s k) (m / 10 ^ (s.size - k))) ∧ wr = (w3.alloc (.cells (cl (dgF m s.size 0)) 58)).alloc (.stringIter s k)) (fun _ wr => s.size - wr.iterPos (w3.heap.size + 1))
  case atStart => exact ⟨0, 0, by omega, rfl, Kp.mk rfl, rfl⟩
  case round =>
    obtain ⟨k, y, hk, rfl, HY, rfl⟩ := hrel
    by_cases hlt : k < s.size
    · have hc := HX.out.1.code hlt
      have hnx := fun ty => run_next_ascii (P := Try.prog) (w3.alloc (.cells (cl (dgF m s.size 0)) 58)) s k ty hlt (by omega)
      simp only [World.iter, World.size_alloc] at hnx
      have hget := cl_get (f := dgF m s.size 0) (show k < 18 by omega)
      have hst := idx_step (n := m) hlt
      have hbd := idx_lt HX.out.1 HX.out.2.1 (show k + 1 ≤ s.size by omega)
      rw [hst, cd_at hlt, ← HY.out] at hbd
      rw [cd_at hlt, ← HY.out] at hst
      generalize dgF m s.size 0 k = d at *
      by_cases h88 : s[k].toNat = 88
      · have t1 : ((s[k].toNat : Int) == 88) = true := by rw [beq_iff_eq]; omega
        rw [if_pos h88] at hst hbd
        have e1 : IntKind.i64.wrap (10 * (y : Int)) = 10 * (y : Int) := IntWalk.i64_in _ (by omega)
        have e2 : IntKind.i64.wrap (10 * (y : Int) + (d : Int)) = 10 * (y : Int) + (d : Int) := IntWalk.i64_in _ (by omega)
        have HY2 := Kp.mk hst.symm
        clear hst hbd h88 hc
        go_wp2_with fail
        go_roundw
        case rel =>
          first
            | exact ⟨k + 1, 10 * y + d, by omega, by go_num, HY2, rfl⟩
            | ((repeat apply Exists.intro); exact ⟨⟨k + 1, 10 * y + d, by omega, by go_num, HY2, rfl⟩, rfl⟩)
        case measure => rw [iter1, iter1]; omega
      · have t1 : ((s[k].toNat : Int) == 88) = false := by rw [beq_eq_false_iff_ne]; omega
        rw [if_neg h88] at hst hbd
        have HY2 := Kp.mk hst.symm
        clear hst hbd h88 hc
        go_wp2_with fail
        go_roundw
        case rel =>
          first
            | exact ⟨k + 1, y, by omega, by go_num, HY2, rfl⟩
            | ((repeat apply Exists.intro); exact ⟨⟨k + 1, y, by omega, by go_num, HY2, rfl⟩, rfl⟩)
        case measure => rw [iter1, iter1]; omega
    · obtain rfl : k = s.size := by omega
      have hnx := fun ty => run_next_end (P := Try.prog) (w3.alloc (.cells (cl (dgF m s.size 0)) 58)) s s.size ty (by omega)
      simp only [World.iter, World.size_alloc] at hnx
      have hy : y = b := by rw [HY.out, pre_all, Nat.sub_self, Nat.pow_zero, Nat.div_one]; exact HX.out.2.2
      have HB2 : Kp (Below w.heap.size w ((w3.alloc (.cells (cl (dgF m s.size 0)) 58)).alloc (.stringIter s s.size))) := Kp.mk ((HB.out.alloc HB.out.size _).alloc (by have := HB.out.size; simp; omega) _)
      subst hy
      go_wp2_with fail
      go_ret2
      exact ⟨rfl, HB2.out⟩
end Go.Proofs.Ytabhfpfnaaihjaa
