/-
  DERIVED. CONTRACTS of package civils: number, for digits enough. Written by mkcvnum.py.
-/
import Derived.Test.YtoafigehcgledaaGreatDoorPCvNum
namespace Go.Proofs.YtoafigehcgledaaGreatDoor
open Go.RowKit
set_option maxRecDepth 100000

set_option maxHeartbeats 1000000 in
theorem num_in_eq {k : Nat} {sg dg : List UInt8} {v : Int} (heq : dg.length = k) (hk : 1 ≤ k) (hk4 : k ≤ 4) (_h : k ≤ dg.length) (_hl : dg.length ≤ 900) (hd : ∀ x ∈ dg, dig x) (hs : sg = [] ∨ sg = [45]) (hF : Form (sg ++ stripZ k dg)) (hv : textVal (sg ++ stripZ k dg) = v) (v0 : -9223372036854775808 ≤ v) (v1 : v ≤ 9223372036854775807) (w : World) :
    Calls Tryz.prog 51 #[.string (bs sg), .string (bs dg), .int .i64 (k : Int)] w fun e w' => e = .returned (.int .i64 v) ∧ Below w.heap.size w w' := by
  have h1 : ¬ ((bs dg).size : Int) < (k : Int) := by rw [bs_size]; omega
  obtain ⟨t, ht⟩ : ∃ t, Lib.trimS dg cs10 = t := ⟨_, rfl⟩
  have tz : (!(bs t).toList.isEmpty) = false := by rw [ByteArray.toList_eq, bs_toList, ← ht, (trimS_nil dg).2 hd]; rfl
  have r0 := Kp.mk (fun w => dTrim ht (by omega) w)
  have HB := Kp.mk (Below.refl w.heap.size w)
  have hsl : sg.length ≤ 1 := by rcases hs with e | e <;> rw [e] <;> simp
  have hsz := strz_len k dg
  have a2 := fun W => add_bs (a := sg) (b := stripZ k dg) (by omega) W
  have hls : (sg ++ stripZ k dg).length ≤ 1000 := by rw [List.length_append]; omega
  have r3 := Kp.mk (fun w => dParse_in hls hF hv v0 v1 w)
  have r4 := Kp.mk (fun w => throw_no w)
  have te : (((bs dg).size : Int) == (k : Int)) = true := by rw [bs_size, beq_iff_eq]; omega
  obtain ⟨m, hm⟩ : ∃ m, m + 1 = k := ⟨k - 1, by omega⟩
  have w1 : IntKind.i64.wrap ((k : Int) - 1) = (m : Int) := by rw [show (k : Int) - 1 = m by omega]; exact IntWalk.i64_in _ (by omega)
  obtain ⟨z, hz⟩ : ∃ z, (dg.take m).dropWhile (· == 48) = z := ⟨_, rfl⟩
  have s1 := fun W => to_bs (l := dg) (i := m) (by omega) W
  have s2 := fun W => from_bs (l := dg) (i := m) (by omega) W
  have r2 := Kp.mk (fun w => dTrimL hz w)
  have hst : stripZ k dg = z ++ dg.drop m := by unfold stripZ; rw [if_pos heq, show k - 1 = m by omega, hz]
  have a1 := fun W => add_bs (a := z) (b := dg.drop m) (by rw [← List.length_append, ← hst]; omega) W
  rw [← hst] at a1
  clear heq hk hk4 _h _hl hd hs hsl hsz ht hls hst hm hz hF hv v0 v1
  go_enter Tryz.func51, Tryz.ntmps51
  go_wp2_with fail
  refine (r0.out _).mono ?_
  rintro e w1 ⟨rfl, hbl⟩
  have HB := Kp.mk (HB.out.trans (hbl.mono HB.out.size))
  clear hbl
  go_upto_region 5 with fail
  go_quiet ((go_at_call 80; with_reducible exact Calls.quiet_of_same (r2.out _)))
  generalize hwq : World.drewN w1 _ = wq
  have HB := Kp.mk (show Below w.heap.size w wq by rw [← hwq]; exact below_drewN HB.out _)
  clear hwq
  go_wp2_with fail
  refine (r3.out _).mono ?_
  rintro e w2 ⟨rfl, hbl⟩
  have HB := Kp.mk (HB.out.trans (hbl.mono HB.out.size))
  clear hbl
  go_wp2_with fail
  refine (r4.out _).mono ?_
  rintro e w' ⟨rfl, rfl⟩
  go_wp2_with fail
  go_ret
  exact ⟨rfl, HB.out⟩
set_option maxHeartbeats 1000000 in
theorem num_in_ne {k : Nat} {sg dg : List UInt8} {v : Int} (heq : ¬ dg.length = k) (hk : 1 ≤ k) (hk4 : k ≤ 4) (h : k ≤ dg.length) (hl : dg.length ≤ 900) (hd : ∀ x ∈ dg, dig x) (hs : sg = [] ∨ sg = [45]) (hF : Form (sg ++ stripZ k dg)) (hv : textVal (sg ++ stripZ k dg) = v) (v0 : -9223372036854775808 ≤ v) (v1 : v ≤ 9223372036854775807) (w : World) :
    Calls Tryz.prog 51 #[.string (bs sg), .string (bs dg), .int .i64 (k : Int)] w fun e w' => e = .returned (.int .i64 v) ∧ Below w.heap.size w w' := by
  have h1 : ¬ ((bs dg).size : Int) < (k : Int) := by rw [bs_size]; omega
  obtain ⟨t, ht⟩ : ∃ t, Lib.trimS dg cs10 = t := ⟨_, rfl⟩
  have tz : (!(bs t).toList.isEmpty) = false := by rw [ByteArray.toList_eq, bs_toList, ← ht, (trimS_nil dg).2 hd]; rfl
  have r0 := Kp.mk (fun w => dTrim ht (by omega) w)
  have HB := Kp.mk (Below.refl w.heap.size w)
  have hsl : sg.length ≤ 1 := by rcases hs with e | e <;> rw [e] <;> simp
  have hsz := strz_len k dg
  have a2 := fun W => add_bs (a := sg) (b := stripZ k dg) (by omega) W
  have hls : (sg ++ stripZ k dg).length ≤ 1000 := by rw [List.length_append]; omega
  have r3 := Kp.mk (fun w => dParse_in hls hF hv v0 v1 w)
  have r4 := Kp.mk (fun w => throw_no w)
  have te : (((bs dg).size : Int) == (k : Int)) = false := by rw [bs_size, beq_eq_false_iff_ne]; omega
  have hst : stripZ k dg = dg := by unfold stripZ; rw [if_neg heq]
  rw [hst] at a2 r3
  clear heq hk hk4 h hl hd hs hsl hsz ht hls hst hF hv v0 v1
  go_enter Tryz.func51, Tryz.ntmps51
  go_wp2_with fail
  refine (r0.out _).mono ?_
  rintro e w1 ⟨rfl, hbl⟩
  have HB := Kp.mk (HB.out.trans (hbl.mono HB.out.size))
  clear hbl
  go_wp2_with fail
  refine (r3.out _).mono ?_
  rintro e w2 ⟨rfl, hbl⟩
  have HB := Kp.mk (HB.out.trans (hbl.mono HB.out.size))
  clear hbl
  go_wp2_with fail
  refine (r4.out _).mono ?_
  rintro e w' ⟨rfl, rfl⟩
  go_wp2_with fail
  go_ret
  exact ⟨rfl, HB.out⟩
theorem num_in {k : Nat} {sg dg : List UInt8} {v : Int} (hk : 1 ≤ k) (hk4 : k ≤ 4) (h : k ≤ dg.length) (hl : dg.length ≤ 900) (hd : ∀ x ∈ dg, dig x) (hs : sg = [] ∨ sg = [45]) (hF : Form (sg ++ stripZ k dg)) (hv : textVal (sg ++ stripZ k dg) = v) (v0 : -9223372036854775808 ≤ v) (v1 : v ≤ 9223372036854775807) (w : World) :
    Calls Tryz.prog 51 #[.string (bs sg), .string (bs dg), .int .i64 (k : Int)] w fun e w' => e = .returned (.int .i64 v) ∧ Below w.heap.size w w' := by
  by_cases heq : dg.length = k
  · exact num_in_eq heq hk hk4 h hl hd hs hF hv v0 v1 w
  · exact num_in_ne heq hk hk4 h hl hd hs hF hv v0 v1 w
set_option maxHeartbeats 1000000 in
theorem num_form_eq {k : Nat} {sg dg : List UInt8} (heq : dg.length = k) (hk : 1 ≤ k) (hk4 : k ≤ 4) (_h : k ≤ dg.length) (_hl : dg.length ≤ 900) (hd : ∀ x ∈ dg, dig x) (hs : sg = [] ∨ sg = [45]) (hF : ¬ Form (sg ++ stripZ k dg)) (w : World) :
    Calls Tryz.prog 51 #[.string (bs sg), .string (bs dg), .int .i64 (k : Int)] w fun e w' => e = pan 5 ∧ Below w.heap.size w w' := by
  have h1 : ¬ ((bs dg).size : Int) < (k : Int) := by rw [bs_size]; omega
  obtain ⟨t, ht⟩ : ∃ t, Lib.trimS dg cs10 = t := ⟨_, rfl⟩
  have tz : (!(bs t).toList.isEmpty) = false := by rw [ByteArray.toList_eq, bs_toList, ← ht, (trimS_nil dg).2 hd]; rfl
  have r0 := Kp.mk (fun w => dTrim ht (by omega) w)
  have HB := Kp.mk (Below.refl w.heap.size w)
  have hsl : sg.length ≤ 1 := by rcases hs with e | e <;> rw [e] <;> simp
  have hsz := strz_len k dg
  have a2 := fun W => add_bs (a := sg) (b := stripZ k dg) (by omega) W
  have hls : (sg ++ stripZ k dg).length ≤ 1000 := by rw [List.length_append]; omega
  have r3 := Kp.mk (fun w => dParse_no hls hF w)
  have r4 := Kp.mk (fun w => throw_is (c := 5) (by decide) w)
  have te : (((bs dg).size : Int) == (k : Int)) = true := by rw [bs_size, beq_iff_eq]; omega
  obtain ⟨m, hm⟩ : ∃ m, m + 1 = k := ⟨k - 1, by omega⟩
  have w1 : IntKind.i64.wrap ((k : Int) - 1) = (m : Int) := by rw [show (k : Int) - 1 = m by omega]; exact IntWalk.i64_in _ (by omega)
  obtain ⟨z, hz⟩ : ∃ z, (dg.take m).dropWhile (· == 48) = z := ⟨_, rfl⟩
  have s1 := fun W => to_bs (l := dg) (i := m) (by omega) W
  have s2 := fun W => from_bs (l := dg) (i := m) (by omega) W
  have r2 := Kp.mk (fun w => dTrimL hz w)
  have hst : stripZ k dg = z ++ dg.drop m := by unfold stripZ; rw [if_pos heq, show k - 1 = m by omega, hz]
  have a1 := fun W => add_bs (a := z) (b := dg.drop m) (by rw [← List.length_append, ← hst]; omega) W
  rw [← hst] at a1
  clear heq hk hk4 _h _hl hd hs hsl hsz ht hls hst hm hz hF
  go_enter Tryz.func51, Tryz.ntmps51
  go_wp2_with fail
  refine (r0.out _).mono ?_
  rintro e w1 ⟨rfl, hbl⟩
  have HB := Kp.mk (HB.out.trans (hbl.mono HB.out.size))
  clear hbl
  go_upto_region 5 with fail
  go_quiet ((go_at_call 80; with_reducible exact Calls.quiet_of_same (r2.out _)))
  generalize hwq : World.drewN w1 _ = wq
  have HB := Kp.mk (show Below w.heap.size w wq by rw [← hwq]; exact below_drewN HB.out _)
  clear hwq
  go_wp2_with fail
  refine (r3.out _).mono ?_
  rintro e w2 ⟨rfl, hbl⟩
  have HB := Kp.mk (HB.out.trans (hbl.mono HB.out.size))
  clear hbl
  go_wp2_with fail
  refine (r4.out _).mono ?_
  rintro e w' ⟨rfl, rfl⟩
  go_wp2_with fail
  exact ⟨rfl, rfl, HB.out⟩
set_option maxHeartbeats 1000000 in
theorem num_form_ne {k : Nat} {sg dg : List UInt8} (heq : ¬ dg.length = k) (hk : 1 ≤ k) (hk4 : k ≤ 4) (h : k ≤ dg.length) (hl : dg.length ≤ 900) (hd : ∀ x ∈ dg, dig x) (hs : sg = [] ∨ sg = [45]) (hF : ¬ Form (sg ++ stripZ k dg)) (w : World) :
    Calls Tryz.prog 51 #[.string (bs sg), .string (bs dg), .int .i64 (k : Int)] w fun e w' => e = pan 5 ∧ Below w.heap.size w w' := by
  have h1 : ¬ ((bs dg).size : Int) < (k : Int) := by rw [bs_size]; omega
  obtain ⟨t, ht⟩ : ∃ t, Lib.trimS dg cs10 = t := ⟨_, rfl⟩
  have tz : (!(bs t).toList.isEmpty) = false := by rw [ByteArray.toList_eq, bs_toList, ← ht, (trimS_nil dg).2 hd]; rfl
  have r0 := Kp.mk (fun w => dTrim ht (by omega) w)
  have HB := Kp.mk (Below.refl w.heap.size w)
  have hsl : sg.length ≤ 1 := by rcases hs with e | e <;> rw [e] <;> simp
  have hsz := strz_len k dg
  have a2 := fun W => add_bs (a := sg) (b := stripZ k dg) (by omega) W
  have hls : (sg ++ stripZ k dg).length ≤ 1000 := by rw [List.length_append]; omega
  have r3 := Kp.mk (fun w => dParse_no hls hF w)
  have r4 := Kp.mk (fun w => throw_is (c := 5) (by decide) w)
  have te : (((bs dg).size : Int) == (k : Int)) = false := by rw [bs_size, beq_eq_false_iff_ne]; omega
  have hst : stripZ k dg = dg := by unfold stripZ; rw [if_neg heq]
  rw [hst] at a2 r3
  clear heq hk hk4 h hl hd hs hsl hsz ht hls hst hF
  go_enter Tryz.func51, Tryz.ntmps51
  go_wp2_with fail
  refine (r0.out _).mono ?_
  rintro e w1 ⟨rfl, hbl⟩
  have HB := Kp.mk (HB.out.trans (hbl.mono HB.out.size))
  clear hbl
  go_wp2_with fail
  refine (r3.out _).mono ?_
  rintro e w2 ⟨rfl, hbl⟩
  have HB := Kp.mk (HB.out.trans (hbl.mono HB.out.size))
  clear hbl
  go_wp2_with fail
  refine (r4.out _).mono ?_
  rintro e w' ⟨rfl, rfl⟩
  go_wp2_with fail
  exact ⟨rfl, rfl, HB.out⟩
theorem num_form {k : Nat} {sg dg : List UInt8} (hk : 1 ≤ k) (hk4 : k ≤ 4) (h : k ≤ dg.length) (hl : dg.length ≤ 900) (hd : ∀ x ∈ dg, dig x) (hs : sg = [] ∨ sg = [45]) (hF : ¬ Form (sg ++ stripZ k dg)) (w : World) :
    Calls Tryz.prog 51 #[.string (bs sg), .string (bs dg), .int .i64 (k : Int)] w fun e w' => e = pan 5 ∧ Below w.heap.size w w' := by
  by_cases heq : dg.length = k
  · exact num_form_eq heq hk hk4 h hl hd hs hF w
  · exact num_form_ne heq hk hk4 h hl hd hs hF w
set_option maxHeartbeats 1000000 in
theorem num_over_eq {k : Nat} {sg dg : List UInt8} (heq : dg.length = k) (hk : 1 ≤ k) (hk4 : k ≤ 4) (_h : k ≤ dg.length) (_hl : dg.length ≤ 900) (hd : ∀ x ∈ dg, dig x) (hs : sg = [] ∨ sg = [45]) (hF : Form (sg ++ stripZ k dg)) (hv : ¬ (-9223372036854775808 ≤ textVal (sg ++ stripZ k dg) ∧ textVal (sg ++ stripZ k dg) ≤ 9223372036854775807)) (w : World) (hL : I1.Laid w) :
    Calls Tryz.prog 51 #[.string (bs sg), .string (bs dg), .int .i64 (k : Int)] w fun e w' => e = pan 6 ∧ Below w.heap.size w w' := by
  have h1 : ¬ ((bs dg).size : Int) < (k : Int) := by rw [bs_size]; omega
  obtain ⟨t, ht⟩ : ∃ t, Lib.trimS dg cs10 = t := ⟨_, rfl⟩
  have tz : (!(bs t).toList.isEmpty) = false := by rw [ByteArray.toList_eq, bs_toList, ← ht, (trimS_nil dg).2 hd]; rfl
  have r0 := Kp.mk (fun w => dTrim ht (by omega) w)
  have HB := Kp.mk (Below.refl w.heap.size w)
  have hsl : sg.length ≤ 1 := by rcases hs with e | e <;> rw [e] <;> simp
  have hsz := strz_len k dg
  have a2 := fun W => add_bs (a := sg) (b := stripZ k dg) (by omega) W
  have hls : (sg ++ stripZ k dg).length ≤ 1000 := by rw [List.length_append]; omega
  have r3 := Kp.mk (fun W (hb : Below w.heap.size w W) => dParse_out hls hF hv W (hL.below hb))
  have r4 := Kp.mk (fun w => throw_is (c := 6) (by decide) w)
  have te : (((bs dg).size : Int) == (k : Int)) = true := by rw [bs_size, beq_iff_eq]; omega
  obtain ⟨m, hm⟩ : ∃ m, m + 1 = k := ⟨k - 1, by omega⟩
  have w1 : IntKind.i64.wrap ((k : Int) - 1) = (m : Int) := by rw [show (k : Int) - 1 = m by omega]; exact IntWalk.i64_in _ (by omega)
  obtain ⟨z, hz⟩ : ∃ z, (dg.take m).dropWhile (· == 48) = z := ⟨_, rfl⟩
  have s1 := fun W => to_bs (l := dg) (i := m) (by omega) W
  have s2 := fun W => from_bs (l := dg) (i := m) (by omega) W
  have r2 := Kp.mk (fun w => dTrimL hz w)
  have hst : stripZ k dg = z ++ dg.drop m := by unfold stripZ; rw [if_pos heq, show k - 1 = m by omega, hz]
  have a1 := fun W => add_bs (a := z) (b := dg.drop m) (by rw [← List.length_append, ← hst]; omega) W
  rw [← hst] at a1
  clear heq hk hk4 _h _hl hd hs hsl hsz ht hls hst hm hz hF hv hL
  go_enter Tryz.func51, Tryz.ntmps51
  go_wp2_with fail
  refine (r0.out _).mono ?_
  rintro e w1 ⟨rfl, hbl⟩
  have HB := Kp.mk (HB.out.trans (hbl.mono HB.out.size))
  clear hbl
  go_upto_region 5 with fail
  go_quiet ((go_at_call 80; with_reducible exact Calls.quiet_of_same (r2.out _)))
  generalize hwq : World.drewN w1 _ = wq
  have HB := Kp.mk (show Below w.heap.size w wq by rw [← hwq]; exact below_drewN HB.out _)
  clear hwq
  go_wp2_with fail
  refine (r3.out _ HB.out).mono ?_
  rintro e w2 ⟨rfl, hbl⟩
  have HB := Kp.mk (HB.out.trans (hbl.mono HB.out.size))
  clear hbl
  go_wp2_with fail
  refine (r4.out _).mono ?_
  rintro e w' ⟨rfl, rfl⟩
  go_wp2_with fail
  exact ⟨rfl, rfl, HB.out⟩
set_option maxHeartbeats 1000000 in
theorem num_over_ne {k : Nat} {sg dg : List UInt8} (heq : ¬ dg.length = k) (hk : 1 ≤ k) (hk4 : k ≤ 4) (h : k ≤ dg.length) (hl : dg.length ≤ 900) (hd : ∀ x ∈ dg, dig x) (hs : sg = [] ∨ sg = [45]) (hF : Form (sg ++ stripZ k dg)) (hv : ¬ (-9223372036854775808 ≤ textVal (sg ++ stripZ k dg) ∧ textVal (sg ++ stripZ k dg) ≤ 9223372036854775807)) (w : World) (hL : I1.Laid w) :
    Calls Tryz.prog 51 #[.string (bs sg), .string (bs dg), .int .i64 (k : Int)] w fun e w' => e = pan 6 ∧ Below w.heap.size w w' := by
  have h1 : ¬ ((bs dg).size : Int) < (k : Int) := by rw [bs_size]; omega
  obtain ⟨t, ht⟩ : ∃ t, Lib.trimS dg cs10 = t := ⟨_, rfl⟩
  have tz : (!(bs t).toList.isEmpty) = false := by rw [ByteArray.toList_eq, bs_toList, ← ht, (trimS_nil dg).2 hd]; rfl
  have r0 := Kp.mk (fun w => dTrim ht (by omega) w)
  have HB := Kp.mk (Below.refl w.heap.size w)
  have hsl : sg.length ≤ 1 := by rcases hs with e | e <;> rw [e] <;> simp
  have hsz := strz_len k dg
  have a2 := fun W => add_bs (a := sg) (b := stripZ k dg) (by omega) W
  have hls : (sg ++ stripZ k dg).length ≤ 1000 := by rw [List.length_append]; omega
  have r3 := Kp.mk (fun W (hb : Below w.heap.size w W) => dParse_out hls hF hv W (hL.below hb))
  have r4 := Kp.mk (fun w => throw_is (c := 6) (by decide) w)
  have te : (((bs dg).size : Int) == (k : Int)) = false := by rw [bs_size, beq_eq_false_iff_ne]; omega
  have hst : stripZ k dg = dg := by unfold stripZ; rw [if_neg heq]
  rw [hst] at a2 r3
  clear heq hk hk4 h hl hd hs hsl hsz ht hls hst hF hv hL
  go_enter Tryz.func51, Tryz.ntmps51
  go_wp2_with fail
  refine (r0.out _).mono ?_
  rintro e w1 ⟨rfl, hbl⟩
  have HB := Kp.mk (HB.out.trans (hbl.mono HB.out.size))
  clear hbl
  go_wp2_with fail
  refine (r3.out _ HB.out).mono ?_
  rintro e w2 ⟨rfl, hbl⟩
  have HB := Kp.mk (HB.out.trans (hbl.mono HB.out.size))
  clear hbl
  go_wp2_with fail
  refine (r4.out _).mono ?_
  rintro e w' ⟨rfl, rfl⟩
  go_wp2_with fail
  exact ⟨rfl, rfl, HB.out⟩
theorem num_over {k : Nat} {sg dg : List UInt8} (hk : 1 ≤ k) (hk4 : k ≤ 4) (h : k ≤ dg.length) (hl : dg.length ≤ 900) (hd : ∀ x ∈ dg, dig x) (hs : sg = [] ∨ sg = [45]) (hF : Form (sg ++ stripZ k dg)) (hv : ¬ (-9223372036854775808 ≤ textVal (sg ++ stripZ k dg) ∧ textVal (sg ++ stripZ k dg) ≤ 9223372036854775807)) (w : World) (hL : I1.Laid w) :
    Calls Tryz.prog 51 #[.string (bs sg), .string (bs dg), .int .i64 (k : Int)] w fun e w' => e = pan 6 ∧ Below w.heap.size w w' := by
  by_cases heq : dg.length = k
  · exact num_over_eq heq hk hk4 h hl hd hs hF hv w hL
  · exact num_over_ne heq hk hk4 h hl hd hs hF hv w hL
end Go.Proofs.YtoafigehcgledaaGreatDoor
