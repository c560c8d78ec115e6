/-
  DERIVED. WALK of the closed law FloatsKnown.
-/
import Derived.Test.YtadnehnhgnfclaaFlLawNext
import Derived.Test.YtadnehnhgnfclaaFlLawWhole
import Derived.BigQuiet
import Derived.Deep.QuietTactic
namespace Go.Proofs.Ytadnehnhgnfclaa
open Go.RowKit

def flL : List Nat := [18442240474082181120, 18442240474082181119, 14114281232179134464, 13830554455654793216, 13826050856027422720, 9223372036854775809, 9223372036854775808, 0, 1, 4503599627370496, 4602678819172646912, 4607182418800017408, 4609434218613702656, 4845873199050653695, 4845873199050653696, 4890909195324358655, 4890909195324358656, 9218868437227405311, 9218868437227405312, 9221120237041090561]
def inL : List Int := [(-9223372036854775808), (-9223372036854775807), (-9007199254740993), (-1), 0, 1, 9007199254740991, 9007199254740992, 9007199254740993, 4611686018427387905, 9223372036854774784, 9223372036854775296, 9223372036854775807]
def flAt (i : Nat) : Nat := flL.getD i 0
def inAt (i : Nat) : Int := inL.getD i 0
theorem flArr : #[Value.float FloatKind.f64 18442240474082181120, Value.float FloatKind.f64 18442240474082181119, Value.float FloatKind.f64 14114281232179134464, Value.float FloatKind.f64 13830554455654793216, Value.float FloatKind.f64 13826050856027422720, Value.float FloatKind.f64 9223372036854775809, Value.float FloatKind.f64 9223372036854775808, Value.float FloatKind.f64 0, Value.float FloatKind.f64 1, Value.float FloatKind.f64 4503599627370496, Value.float FloatKind.f64 4602678819172646912, Value.float FloatKind.f64 4607182418800017408, Value.float FloatKind.f64 4609434218613702656, Value.float FloatKind.f64 4845873199050653695, Value.float FloatKind.f64 4845873199050653696, Value.float FloatKind.f64 4890909195324358655, Value.float FloatKind.f64 4890909195324358656, Value.float FloatKind.f64 9218868437227405311, Value.float FloatKind.f64 9218868437227405312, Value.float FloatKind.f64 9221120237041090561] = (flL.map fun b => Value.float .f64 b).toArray := rfl
theorem inArr : #[Value.int IntKind.i64 (-9223372036854775808), Value.int IntKind.i64 (-9223372036854775807), Value.int IntKind.i64 (-9007199254740993), Value.int IntKind.i64 (-1), Value.int IntKind.i64 0, Value.int IntKind.i64 1, Value.int IntKind.i64 9007199254740991, Value.int IntKind.i64 9007199254740992, Value.int IntKind.i64 9007199254740993, Value.int IntKind.i64 4611686018427387905, Value.int IntKind.i64 9223372036854774784, Value.int IntKind.i64 9223372036854775296, Value.int IntKind.i64 9223372036854775807] = (inL.map fun b => Value.int .i64 b).toArray := rfl
theorem fl_get {i : Nat} (h : i < 20) : (flL.map fun b => Value.float .f64 b).toArray[i]? = some (.float .f64 (flAt i)) := by
  unfold flAt
  rw [List.getElem?_toArray, List.getElem?_map, List.getD_eq_getElem?_getD, List.getElem?_eq_getElem (h := (show i < flL.length from h))]; rfl
theorem in_get {i : Nat} (h : i < 13) : (inL.map fun b => Value.int .i64 b).toArray[i]? = some (.int .i64 (inAt i)) := by
  unfold inAt
  rw [List.getElem?_toArray, List.getElem?_map, List.getD_eq_getElem?_getD, List.getElem?_eq_getElem (h := (show i < inL.length from h))]; rfl
theorem fl_all : ∀ i : Fin 20, flAt i < 18446744073709551616 ∧ quietB (flAt i) = true := by decide +kernel
theorem fl_rank : ∀ i : Fin 20, ∀ k : Fin 20, cmpZ (rankI (flAt i)) (rankI (flAt k)) = cmpZ i.val k.val := by decide +kernel
theorem in_all : ∀ i : Fin 13, -9223372036854775808 ≤ inAt i ∧ inAt i ≤ 9223372036854775807 := by decide +kernel
/-- the two rows, as every world of the loops has them -/
structure Kn (w W : World) : Prop where
  below : Below w.heap.size w W
  size : w.heap.size + 1 < W.heap.size
  fl : ∀ i, i < 20 → W.cell? ⟨w.heap.size, i, none⟩ = some (.float .f64 (flAt i))
  ints : ∀ i, i < 13 → W.cell? ⟨w.heap.size + 1, i, none⟩ = some (.int .i64 (inAt i))
theorem Kn.drew {w W : World} (h : Kn w W) (n : Nat) : Kn w (W.drewN n) := ⟨below_drewN h.below n, h.size, h.fl, h.ints⟩
theorem kn_start (w : World) : Kn w ((w.alloc (.cells #[Value.float FloatKind.f64 18442240474082181120, Value.float FloatKind.f64 18442240474082181119, Value.float FloatKind.f64 14114281232179134464, Value.float FloatKind.f64 13830554455654793216, Value.float FloatKind.f64 13826050856027422720, Value.float FloatKind.f64 9223372036854775809, Value.float FloatKind.f64 9223372036854775808, Value.float FloatKind.f64 0, Value.float FloatKind.f64 1, Value.float FloatKind.f64 4503599627370496, Value.float FloatKind.f64 4602678819172646912, Value.float FloatKind.f64 4607182418800017408, Value.float FloatKind.f64 4609434218613702656, Value.float FloatKind.f64 4845873199050653695, Value.float FloatKind.f64 4845873199050653696, Value.float FloatKind.f64 4890909195324358655, Value.float FloatKind.f64 4890909195324358656, Value.float FloatKind.f64 9218868437227405311, Value.float FloatKind.f64 9218868437227405312, Value.float FloatKind.f64 9221120237041090561] 22)).alloc (.cells #[Value.int IntKind.i64 (-9223372036854775808), Value.int IntKind.i64 (-9223372036854775807), Value.int IntKind.i64 (-9007199254740993), Value.int IntKind.i64 (-1), Value.int IntKind.i64 0, Value.int IntKind.i64 1, Value.int IntKind.i64 9007199254740991, Value.int IntKind.i64 9007199254740992, Value.int IntKind.i64 9007199254740993, Value.int IntKind.i64 4611686018427387905, Value.int IntKind.i64 9223372036854774784, Value.int IntKind.i64 9223372036854775296, Value.int IntKind.i64 9223372036854775807] 2)) := by
  rw [flArr, inArr]
  refine ⟨((Below.refl _ _).alloc (Nat.le_refl _) _).alloc (by simp) _, by simp, fun i h => ?_, fun i h => ?_⟩
  · rw [World.cell?_alloc2_first, fl_get h]
  · rw [World.cell?_alloc2_new, in_get h]
/-- a NaN that is quiet: nothing is drawn -/
theorem fCmp_q {b : Nat} {n : Int} (hb : b < 18446744073709551616) (h : isNan b = true) (hq : quietB b = true) (w : World) :
    Calls Try.prog 22 #[.float .f64 b, .int .i64 n] w fun e w' => e = .returned (.tuple #[.int .i64 0, .int .i64 1]) ∧ w = w' := by
  have H := Kp.mk (fun w => fFloor_is (n := 0) (c := 1) w hb hq (by unfold wholR; rw [h]; rfl)); clear h hb hq
  go_enter Try.func22, Try.ntmps22
  go_wp2_with fail
  refine (H.out _).mono ?_
  rintro e w' ⟨rfl, rfl⟩
  go_wp2
  go_ret2
  exact ⟨rfl, rfl⟩
set_option maxRecDepth 100000 in
set_option maxHeartbeats 1000000 in
theorem lawWhole_q (x : Nat) (n : Int) (w : World) (hb : x < 18446744073709551616) (h : isNan x = true) (hq : quietB x = true) :
    Calls Try.prog 6 #[.float .f64 x, .int .i64 n] w fun e w' => e = .returned (.bool true) ∧ w = w' := by
  have h1 := Kp.mk (fun w => fFloor_is (n := 0) (c := 1) w hb hq (by unfold wholR; rw [h]; rfl))
  have h2 := Kp.mk (fun w => fCeil_is (n := 0) (c := 1) w hb hq (by unfold wholR; rw [h]; rfl))
  have h3 := Kp.mk (fun w => fCmp_q (n := n) hb h hq w)
  have hN : (FloatKind.f64.format.order x x != some Ordering.eq) = true := by rw [ord_ne, fEq_self, h]; rfl
  clear h hb hq
  go_enter Try.func6, Try.ntmps6
  go_wp2_with fail
  refine (h1.out _).mono ?_
  rintro e w1 ⟨rfl, rfl⟩
  go_wp2_with fail
  refine (h2.out _).mono ?_
  rintro e w2 ⟨rfl, rfl⟩
  go_wp2_with fail
  refine (h3.out _).mono ?_
  rintro e w3 ⟨rfl, rfl⟩
  go_wp2_with fail
  refine (lives_any _).mono ?_
  rintro e w4 ⟨rfl, rfl⟩
  go_wp2
  go_ret
  exact ⟨rfl, rfl⟩
theorem lawWhole_same (x : Nat) (n : Int) (w : World) (hb : x < 18446744073709551616) (hq : quietB x = true) (n1 : -9223372036854775808 ≤ n) (n2 : n ≤ 9223372036854775807) :
    Calls Try.prog 6 #[.float .f64 x, .int .i64 n] w fun e w' => e = .returned (.bool true) ∧ w = w' := by
  cases hx : isNan x
  · exact lawWhole_num x n w hx hb n1 n2
  · exact lawWhole_q x n w hb hx hq

theorem turned {f : FuncId} {args : Array Value} {v : Value} (h : ∀ w, Calls Try.prog f args w fun e w' => e = .returned v ∧ w = w') (w : World) : Calls Try.prog f args w fun e w' => e = .returned v ∧ w' = w :=
  (h w).mono fun _ _ ⟨a, b⟩ => ⟨a, b.symm⟩
set_option maxRecDepth 100000 in
set_option maxHeartbeats 2000000 in
theorem known_any (w : World) :
    Calls Try.prog 7 #[] w fun e w' => e = .returned (.bool true) ∧ Below w.heap.size w w' := by
  have hInf : ∀ w, Calls Try.prog 27 #[.int .i64 (-1)] w fun e w' => e = .returned (.float .f64 18442240474082181120) ∧ w = w' := fun w => by
    have hF := run_from
    go_enter Try.func27, Try.ntmps27
    go_wp2
    go_ret
    exact ⟨ret_flt (by decide), rfl⟩
  have HI := Kp.mk hInf; clear hInf
  go_enter Try.func7, Try.ntmps7
  go_wp2_with fail
  refine (HI.out _).mono ?_
  rintro e w' ⟨rfl, rfl⟩
  go_wp2_with fail
  refine (copysign_is _).mono ?_
  rintro e w' ⟨rfl, rfl⟩
  go_wp2_with fail
  refine (inf_is _).mono ?_
  rintro e w' ⟨rfl, rfl⟩
  go_wp2_with fail
  refine (nan_is _).mono ?_
  rintro e w' ⟨rfl, rfl⟩
  go_wp2_with fail
  have hk := kn_start w
  generalize (w.alloc (.cells #[Value.float FloatKind.f64 18442240474082181120, Value.float FloatKind.f64 18442240474082181119, Value.float FloatKind.f64 14114281232179134464, Value.float FloatKind.f64 13830554455654793216, Value.float FloatKind.f64 13826050856027422720, Value.float FloatKind.f64 9223372036854775809, Value.float FloatKind.f64 9223372036854775808, Value.float FloatKind.f64 0, Value.float FloatKind.f64 1, Value.float FloatKind.f64 4503599627370496, Value.float FloatKind.f64 4602678819172646912, Value.float FloatKind.f64 4607182418800017408, Value.float FloatKind.f64 4609434218613702656, Value.float FloatKind.f64 4845873199050653695, Value.float FloatKind.f64 4845873199050653696, Value.float FloatKind.f64 4890909195324358655, Value.float FloatKind.f64 4890909195324358656, Value.float FloatKind.f64 9218868437227405311, Value.float FloatKind.f64 9218868437227405312, Value.float FloatKind.f64 9221120237041090561] 22)).alloc (.cells #[Value.int IntKind.i64 (-9223372036854775808), Value.int IntKind.i64 (-9223372036854775807), Value.int IntKind.i64 (-9007199254740993), Value.int IntKind.i64 (-1), Value.int IntKind.i64 0, Value.int IntKind.i64 1, Value.int IntKind.i64 9007199254740991, Value.int IntKind.i64 9007199254740992, Value.int IntKind.i64 9007199254740993, Value.int IntKind.i64 4611686018427387905, Value.int IntKind.i64 9223372036854774784, Value.int IntKind.i64 9223372036854775296, Value.int IntKind.i64 9223372036854775807] 2) = W0 at hk ⊢
  have HK := Kp.mk hk; clear hk HI
  go_loopw [3] (fun i wr => ∃ k : Nat, k ≤ 20 ∧ i = .int .i64 k ∧ Kp (Kn w wr)) (fun i _ => 20 - (intOf i).toNat)
  case atStart => exact ⟨0, by omega, rfl, HK⟩
  case round =>
    obtain ⟨i, hi, rfl, HW⟩ := hrel
    by_cases hi2 : i < 20
    · go_wp2_with fail
      go_loopw [4] (fun z wr => ∃ k : Nat, k ≤ 20 ∧ z = .int .i64 k ∧ Kp (Kn w wr)) (fun z _ => 20 - (intOf z).toNat)
      case atStart => exact ⟨0, by omega, rfl, HW⟩
      case round =>
        obtain ⟨k, hk, rfl, HV⟩ := hrel
        by_cases hk2 : k < 20
        · have c1 := HV.out.fl i hi2
          have c2 := HV.out.fl k hk2
          have o1 := fl_all ⟨i, hi2⟩
          have o2 := fl_all ⟨k, hk2⟩
          have o3 := fl_rank ⟨i, hi2⟩ ⟨k, hk2⟩
          simp only at o1 o2 o3
          have b1 : (i : Int) < 20 := by omega
          have b2 : (k : Int) < 20 := by omega
          generalize flAt i = x at *
          generalize flAt k = y at *
          have HN := Kp.mk (turned fun w => lawNext_any x y w o1.1 o2.1)
          obtain ⟨q, hq⟩ : ∃ q, q = cmpZ (i : Int) (k : Int) := ⟨_, rfl⟩
          have hql : (i < k → q = -1) ∧ (i = k → q = 0) ∧ (k < i → q = 1) := by
            rw [hq]; unfold cmpZ
            refine ⟨fun c => if_pos (by omega), fun c => by rw [if_neg (by omega), if_neg (by omega)], fun c => by rw [if_neg (by omega), if_pos (by omega)]⟩
          have HO := Kp.mk (turned fun w => order_is w o1.1 o2.1 (o3.trans hq.symm))
          clear o1 o2 o3 hq
          obtain ⟨ql1, ql2, ql3⟩ := hql
          rcases Nat.lt_trichotomy i k with h | h | h
          · have hq := ql1 h
            subst hq
            clear ql1 ql2 ql3
            have d1 : decide (i < k) = true := by simp; omega
            have d2 : decide (k < i) = false := by simp; omega
            have d3 : ((i : Int) == (k : Int)) = false := by simp; omega
            clear h
            go_wp2_with fail
            go_quiet ((go_at_call 8; exact (HO.out _).mono fun _ _ h => ⟨h.1, _, h.2⟩))
            go_wp2_with fail
            go_quiet ((go_at_call 4; exact (HN.out _).mono fun _ _ h => ⟨h.1, _, h.2⟩))
            go_wp2_with fail
            go_roundw
            case rel => exact ⟨k + 1, by omega, by go_num, Kp.mk (HV.out.drew _)⟩
            case measure => simp [intOf]; omega
          · have hq := ql2 h
            subst hq
            clear ql1 ql2 ql3
            have d1 : decide (i < k) = false := by simp; omega
            have d2 : decide (k < i) = false := by simp; omega
            have d3 : ((i : Int) == (k : Int)) = true := by simp; omega
            clear h
            go_wp2_with fail
            go_quiet ((go_at_call 8; exact (HO.out _).mono fun _ _ h => ⟨h.1, _, h.2⟩))
            go_wp2_with fail
            go_quiet ((go_at_call 4; exact (HN.out _).mono fun _ _ h => ⟨h.1, _, h.2⟩))
            go_wp2_with fail
            go_roundw
            case rel => exact ⟨k + 1, by omega, by go_num, Kp.mk (HV.out.drew _)⟩
            case measure => simp [intOf]; omega
          · have hq := ql3 h
            subst hq
            clear ql1 ql2 ql3
            have d1 : decide (i < k) = false := by simp; omega
            have d2 : decide (k < i) = true := by simp; omega
            have d3 : ((i : Int) == (k : Int)) = false := by simp; omega
            clear h
            go_wp2_with fail
            go_quiet ((go_at_call 8; exact (HO.out _).mono fun _ _ h => ⟨h.1, _, h.2⟩))
            go_wp2_with fail
            go_quiet ((go_at_call 4; exact (HN.out _).mono fun _ _ h => ⟨h.1, _, h.2⟩))
            go_wp2_with fail
            go_roundw
            case rel => exact ⟨k + 1, by omega, by go_num, Kp.mk (HV.out.drew _)⟩
            case measure => simp [intOf]; omega
        · have hke : k = 20 := by omega
          subst hke
          go_wp2_with fail
          go_loopw [6] (fun z wr => ∃ j : Nat, j ≤ 13 ∧ z = .int .i64 j ∧ Kp (Kn w wr)) (fun z _ => 13 - (intOf z).toNat)
          case atStart => exact ⟨0, by omega, rfl, HV⟩
          case round =>
            rename_i wr2 _ _
            obtain ⟨j, hj, rfl, HZ⟩ := hrel
            by_cases hj2 : j < 13
            · have c1 := HZ.out.fl i hi2
              have c2 := HZ.out.ints j hj2
              have c3 := HZ.out.ints ((i + j) % 13) (Nat.mod_lt _ (by decide))
              have o1 := fl_all ⟨i, hi2⟩
              have o2 := in_all ⟨j, hj2⟩
              have o3 := in_all ⟨(i + j) % 13, Nat.mod_lt _ (by decide)⟩
              simp only at o1 o2 o3
              have b1 : (i : Int) < 20 := by omega
              have b2 : (j : Int) < 13 := by omega
              generalize flAt i = x at *
              generalize inAt j = m at *
              generalize inAt ((i + j) % 13) = m' at *
              have HW2 := Kp.mk (turned fun w => lawWhole_same x m w o1.1 o1.2 o2.1 o2.2)
              have HN2 := Kp.mk (turned fun w => lawNear_any m m' w o2.1 o2.2 o3.1 o3.2)
              clear o1 o2 o3
              go_wp2_with fail
              go_quiet ((first | (go_at_call 6; exact (HW2.out _).mono fun _ _ h => ⟨h.1, _, h.2⟩) | (go_at_call 5; exact (HN2.out _).mono fun _ _ h => ⟨h.1, _, h.2⟩)))
              go_wp2_with fail
              go_roundw
              case rel => exact ⟨j + 1, by omega, by go_num, Kp.mk (HZ.out.drew _)⟩
              case measure => simp [intOf]; omega
            · have hje : j = 13 := by omega
              subst hje
              go_wp2_with fail
              go_roundw
              case rel => exact ⟨i + 1, by omega, by go_num, HZ⟩
              case measure => simp [intOf]; omega
    · have he : i = 20 := by omega
      subst he
      go_wp2_with fail
      refine (lives_any _).mono ?_
      rintro e w' ⟨rfl, rfl⟩
      go_wp2
      go_ret
      exact ⟨rfl, HW.out.below⟩
end Go.Proofs.Ytadnehnhgnfclaa
