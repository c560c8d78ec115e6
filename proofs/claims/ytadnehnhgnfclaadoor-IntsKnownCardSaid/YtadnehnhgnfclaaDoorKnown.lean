/-
  DERIVED. WALK of the closed law IntsKnown.
-/
import Derived.Test.YtadnehnhgnfclaaDoorLawDivs
import Derived.Test.YtadnehnhgnfclaaDoorLawGcd
import Derived.Test.YtadnehnhgnfclaaDoorLawText
import Derived.Test.YtadnehnhgnfclaaDoorLawParse
import Derived.Deep.RegionHeld3
namespace Go.Proofs.YtadnehnhgnfclaaDoor
open Go.RowKit Go.Deep

def inL : List Int := [(-9223372036854775808), (-9223372036854775807), (-4294967296), (-10), (-1), 0, 1, 2, 10, 2147483648, 4294967296, 9223372036854775806, 9223372036854775807]
def inAt (i : Nat) : Int := inL.getD i 0
theorem inArr : #[Value.int IntKind.i64 (-9223372036854775808), Value.int IntKind.i64 (-9223372036854775807), Value.int IntKind.i64 (-4294967296), Value.int IntKind.i64 (-10), Value.int IntKind.i64 (-1), Value.int IntKind.i64 0, Value.int IntKind.i64 1, Value.int IntKind.i64 2, Value.int IntKind.i64 10, Value.int IntKind.i64 2147483648, Value.int IntKind.i64 4294967296, Value.int IntKind.i64 9223372036854775806, Value.int IntKind.i64 9223372036854775807] = (inL.map fun b => Value.int .i64 b).toArray := rfl
theorem in_get {i : Nat} (h : i < 13) : (inL.map fun b => Value.int .i64 b).toArray[i]? = some (.int .i64 (inAt i)) := by
  unfold inAt
  rw [List.getElem?_toArray, List.getElem?_map, List.getD_eq_getElem?_getD, List.getElem?_eq_getElem (h := (show i < inL.length from h))]; rfl
theorem in_all : ∀ i : Fin 13, -9223372036854775808 ≤ inAt i ∧ inAt i ≤ 9223372036854775807 := by decide +kernel
/-- the row, as every world of the loops has it -/
structure Kn (w W : World) : Prop where
  below : Below w.heap.size w W
  size : w.heap.size < W.heap.size
  ints : ∀ i, i < 13 → W.cell? ⟨w.heap.size, i, none⟩ = some (.int .i64 (inAt i))
  laid : Laid W
theorem Kn.step {w W W' : World} (h : Kn w W) (hb : Below W.heap.size W W') : Kn w W' :=
  ⟨h.below.trans (hb.mono h.below.size), by have := hb.size; have := h.size; omega, fun i hi => by rw [hb.cell (p := ⟨w.heap.size, i, none⟩) h.size]; exact h.ints i hi, h.laid.below hb⟩
theorem Kn.drew {w W : World} (h : Kn w W) : Kn w W.drew := h.step (Below.refl _ _).drew
theorem kn_start (w : World) (hw : Laid w) : Kn w (w.alloc (.cells #[Value.int IntKind.i64 (-9223372036854775808), Value.int IntKind.i64 (-9223372036854775807), Value.int IntKind.i64 (-4294967296), Value.int IntKind.i64 (-10), Value.int IntKind.i64 (-1), Value.int IntKind.i64 0, Value.int IntKind.i64 1, Value.int IntKind.i64 2, Value.int IntKind.i64 10, Value.int IntKind.i64 2147483648, Value.int IntKind.i64 4294967296, Value.int IntKind.i64 9223372036854775806, Value.int IntKind.i64 9223372036854775807] 2)) := by
  rw [inArr]
  have hb : Below w.heap.size w (w.alloc (.cells (inL.map fun b => Value.int .i64 b).toArray 2)) := (Below.refl _ _).alloc (Nat.le_refl _) _
  refine ⟨hb, by simp, fun i h => ?_, hw.below hb⟩
  rw [World.cell?_alloc_new, in_get h]
/-- a law at numbers of the row -/
def Law (f : FuncId) (args : Array Value) : Prop := ∀ W, Laid W → Calls Tryd.prog f args W fun e w' => e = .returned (.bool true) ∧ Below W.heap.size W w'
set_option maxRecDepth 100000 in
set_option maxHeartbeats 4000000 in
theorem known_any (w : World) (hw : Laid w) :
    Calls Tryd.prog 8 #[] w fun e w' => e = .returned (.bool true) ∧ Below w.heap.size w w' := by
  have hk := kn_start w hw
  clear hw
  go_enter Tryd.func8, Tryd.ntmps8
  go_wp2_with fail
  generalize w.alloc (.cells #[Value.int IntKind.i64 (-9223372036854775808), Value.int IntKind.i64 (-9223372036854775807), Value.int IntKind.i64 (-4294967296), Value.int IntKind.i64 (-10), Value.int IntKind.i64 (-1), Value.int IntKind.i64 0, Value.int IntKind.i64 1, Value.int IntKind.i64 2, Value.int IntKind.i64 10, Value.int IntKind.i64 2147483648, Value.int IntKind.i64 4294967296, Value.int IntKind.i64 9223372036854775806, Value.int IntKind.i64 9223372036854775807] 2) = W0 at hk ⊢
  have HK := Kp.mk hk; clear hk
  go_loopw [2] (fun i wr => ∃ k : Nat, k ≤ 13 ∧ i = .int .i64 k ∧ Kp (Kn w wr)) (fun i _ => 13 - (intOf i).toNat)
  case atStart => exact ⟨0, by omega, rfl, HK⟩
  case round =>
    obtain ⟨i, hi, rfl, HW⟩ := hrel
    by_cases hi2 : i < 13
    · have t1 : decide ((i : Int) < 13) = true := decide_eq_true (by omega)
      go_wp2_with fail
      clear t1
      go_loopw [3] (fun z wr => ∃ k : Nat, k ≤ 13 ∧ z = .int .i64 k ∧ Kp (Kn w wr)) (fun z _ => 13 - (intOf z).toNat)
      case atStart => exact ⟨0, by omega, rfl, HW⟩
      case round =>
        obtain ⟨k, hk, rfl, HV⟩ := hrel
        by_cases hk2 : k < 13
        · obtain ⟨r, hr⟩ : ∃ r, r = (i + k) % 13 := ⟨_, rfl⟩
          have hr13 : r < 13 := by rw [hr]; exact Nat.mod_lt _ (by decide)
          have b3 : (r : Int) < 13 := by omega
          have m1 : IntKind.i64.wrap ((i : Int) + (k : Int)) = (i : Int) + (k : Int) := by simp only [IntKind.wrap_i64]; omega
          have m2 : ((i : Int) + (k : Int)).tmod 13 = (r : Int) := by rw [Int.tmod_eq_emod_of_nonneg (by omega)]; omega
          have m3 : ((i : Int) + (k : Int)) % 13 = (r : Int) := by omega
          clear hr
          have K0 := Kp.mk HV.out.drew
          have c1 := HV.out.ints i hi2
          have c2 := HV.out.ints k hk2
          have c3 := HV.out.ints r hr13
          have o1 := in_all ⟨i, hi2⟩
          have o2 := in_all ⟨k, hk2⟩
          have o3 := in_all ⟨r, hr13⟩
          simp only at o1 o2 o3
          have b1 : (i : Int) < 13 := by omega
          have b2 : (k : Int) < 13 := by omega
          have hcells := Kp.mk (fun (W : World) (h : Kn w W) => And.intro (h.ints i hi2) (And.intro (h.ints k hk2) (h.ints r hr13)))
          generalize inAt i = x at *
          generalize inAt k = y at *
          generalize inAt r = z at *
          have LS := Kp.mk (show Law 3 #[.int .i64 x, .int .i64 y] from fun W h => lawSums_any x y W h o1.1 o1.2 o2.1 o2.2)
          have LD := Kp.mk (show Law 4 #[.int .i64 x, .int .i64 y, .int .i64 z] from fun W h => lawDivs_any x y z W h o1.1 o1.2 o2.1 o2.2 o3.1 o3.2)
          have LG := Kp.mk (show Law 5 #[.int .i64 x, .int .i64 y, .int .i64 i] from fun W h => lawGcd_any x y i W h o1.1 o1.2 o2.1 o2.2 (by omega) (by omega))
          clear o1 o2 o3
          go_wp2_with fail
          go_region_held3 (fun w' => w'.cell? ⟨w.heap.size, i, none⟩ = some (.int .i64 x) ∧ w'.cell? ⟨w.heap.size, k, none⟩ = some (.int .i64 y) ∧ w'.cell? ⟨w.heap.size, r, none⟩ = some (.int .i64 z)) (first | go_keep | (first | exact ⟨kw70, kw71, kw72⟩ | exact ⟨kw80, kw81, kw82⟩ | exact ⟨kw90, kw91, kw92⟩))
            (first
              | (go_at_call 3; (with_reducible show Calls _ _ _ wr.drew _); refine (LS.out _ K0.out.laid).mono ?_; rintro e w7 ⟨rfl, hb⟩; have K7 := Kp.mk (K0.out.step hb); obtain ⟨kw70, kw71, kw72⟩ := hcells.out _ K7.out; clear hb)
              | (go_at_call 4; (with_reducible show Calls _ _ _ w7 _); refine (LD.out _ K7.out.laid).mono ?_; rintro e w8 ⟨rfl, hb⟩; have K8 := Kp.mk (K7.out.step hb); obtain ⟨kw80, kw81, kw82⟩ := hcells.out _ K8.out; clear hb)
              | (go_at_call 5; (with_reducible show Calls _ _ _ w8 _); refine (LG.out _ K8.out.laid).mono ?_; rintro e w9 ⟨rfl, hb⟩; have K9 := Kp.mk (K8.out.step hb); obtain ⟨kw90, kw91, kw92⟩ := hcells.out _ K9.out; clear hb))
          go_wp2_with fail
          go_roundw
          case rel => exact ⟨k + 1, by omega, by go_num, K9⟩
          case measure => simp [intOf]; omega
        · have hke : k = 13 := by omega
          subst hke
          have b1 : (i : Int) < 13 := by omega
          have c1 := HV.out.ints i hi2
          have o1 := in_all ⟨i, hi2⟩
          simp only at o1
          generalize inAt i = x at *
          have LT := Kp.mk (show Law 6 #[.int .i64 x] from fun W h => lawText_any x W h o1.1 o1.2)
          clear o1
          go_wp2_with fail
          refine (LT.out _ HV.out.laid).mono ?_
          rintro e w5 ⟨rfl, hb⟩
          have H5 := Kp.mk (HV.out.step hb); clear hb
          go_wp2_with fail
          go_roundw
          case rel => exact ⟨i + 1, by omega, by go_num, H5⟩
          case measure => simp [intOf]; omega
    · have he : i = 13 := by omega
      subst he
      have h0 := Kp.mk (And.intro HW.out.below HW.out.laid)
      go_wp2_with fail
      refine (lawParse_any _ _ h0.out.2).mono ?_
      rintro e w1 ⟨rfl, hc⟩
      have h1 := Kp.mk (And.intro (h0.out.1.trans (hc.mono h0.out.1.size)) (h0.out.2.below hc)); clear hc h0
      go_wp2_with fail
      refine (lawParse_any _ _ h1.out.2).mono ?_
      rintro e w2 ⟨rfl, hc⟩
      have h2 := Kp.mk (And.intro (h1.out.1.trans (hc.mono h1.out.1.size)) (h1.out.2.below hc)); clear hc h1
      go_wp2_with fail
      refine (lawParse_any _ _ h2.out.2).mono ?_
      rintro e w3 ⟨rfl, hc⟩
      have h3 := Kp.mk (And.intro (h2.out.1.trans (hc.mono h2.out.1.size)) (h2.out.2.below hc)); clear hc h2
      go_wp2_with fail
      refine (lawParse_any _ _ h3.out.2).mono ?_
      rintro e w4 ⟨rfl, hc⟩
      have h4 := Kp.mk (And.intro (h3.out.1.trans (hc.mono h3.out.1.size)) (h3.out.2.below hc)); clear hc h3
      go_wp2_with fail
      refine (lawParse_any _ _ h4.out.2).mono ?_
      rintro e w5 ⟨rfl, hc⟩
      have h5 := Kp.mk (And.intro (h4.out.1.trans (hc.mono h4.out.1.size)) (h4.out.2.below hc)); clear hc h4
      go_wp2_with fail
      refine (lawParse_any _ _ h5.out.2).mono ?_
      rintro e w6 ⟨rfl, hc⟩
      have h6 := Kp.mk (And.intro (h5.out.1.trans (hc.mono h5.out.1.size)) (h5.out.2.below hc)); clear hc h5
      go_wp2_with fail
      refine (lawParse_any _ _ h6.out.2).mono ?_
      rintro e w7 ⟨rfl, hc⟩
      have h7 := Kp.mk (And.intro (h6.out.1.trans (hc.mono h6.out.1.size)) (h6.out.2.below hc)); clear hc h6
      go_wp2_with fail
      refine (lawParse_any _ _ h7.out.2).mono ?_
      rintro e w8 ⟨rfl, hc⟩
      have h8 := Kp.mk (And.intro (h7.out.1.trans (hc.mono h7.out.1.size)) (h7.out.2.below hc)); clear hc h7
      go_wp2_with fail
      refine (lawParse_any _ _ h8.out.2).mono ?_
      rintro e w9 ⟨rfl, hc⟩
      have h9 := Kp.mk (And.intro (h8.out.1.trans (hc.mono h8.out.1.size)) (h8.out.2.below hc)); clear hc h8
      go_wp2_with fail
      refine (lawParse_any _ _ h9.out.2).mono ?_
      rintro e w10 ⟨rfl, hc⟩
      have h10 := Kp.mk (And.intro (h9.out.1.trans (hc.mono h9.out.1.size)) (h9.out.2.below hc)); clear hc h9
      go_wp2_with fail
      refine (lives_any _ h10.out.2).mono ?_
      rintro e w11 ⟨rfl, hc⟩
      have h11 := Kp.mk (h10.out.1.trans (hc.mono h10.out.1.size)); clear hc h10
      go_wp2_with fail
      go_ret
      exact ⟨rfl, h11.out⟩
end Go.Proofs.YtadnehnhgnfclaaDoor
