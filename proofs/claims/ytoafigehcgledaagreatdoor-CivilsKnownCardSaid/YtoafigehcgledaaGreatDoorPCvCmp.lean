/-
  DERIVED. CONTRACT of package civils: Compare (cmp.Compare, cmp.Or).
-/
import Derived.Test.YtoafigehcgledaaGreatDoorPCvDev
namespace Go.Proofs.YtoafigehcgledaaGreatDoor
open Go.RowKit
set_option maxRecDepth 100000

theorem nan64 (n : Int) (w : World) : Calls Tryz.prog 70 #[.int .i64 n] w fun e w' => e = .returned (.bool false) ∧ w = w' := by
  go_enter Tryz.func70, Tryz.ntmps70
  go_wp2_with fail
  go_ret
  exact ⟨rfl, rfl⟩
theorem nanInt (n : Int) (w : World) : Calls Tryz.prog 71 #[.int .i64 n] w fun e w' => e = .returned (.bool false) ∧ w = w' := by
  go_enter Tryz.func71, Tryz.ntmps71
  go_wp2_with fail
  go_ret
  exact ⟨rfl, rfl⟩
theorem cmp64 {a b v : Int} (hv : cmpI a b = v) (w : World) : Calls Tryz.prog 45 #[.int .i64 a, .int .i64 b] w fun e w' => e = .returned (.int .i64 v) ∧ w = w' := by
  have r1 := Kp.mk (fun w => nan64 a w)
  have r2 := Kp.mk (fun w => nan64 b w)
  have HV := Kp.mk hv
  clear hv
  by_cases h1 : a < b
  · obtain rfl : -1 = v := by rw [← HV.out]; unfold cmpI; rw [if_pos h1]
    go_enter Tryz.func45, Tryz.ntmps45
    go_wp2_with fail
    refine (r1.out _).mono ?_
    rintro e w' ⟨rfl, rfl⟩
    go_wp2_with fail
    refine (r2.out _).mono ?_
    rintro e w' ⟨rfl, rfl⟩
    go_wp2_with fail
    go_ret
    exact ⟨rfl, rfl⟩
  · by_cases h2 : b < a
    · obtain rfl : 1 = v := by rw [← HV.out]; unfold cmpI; rw [if_neg h1, if_pos h2]
      go_enter Tryz.func45, Tryz.ntmps45
      go_wp2_with fail
      refine (r1.out _).mono ?_
      rintro e w' ⟨rfl, rfl⟩
      go_wp2_with fail
      refine (r2.out _).mono ?_
      rintro e w' ⟨rfl, rfl⟩
      go_wp2_with fail
      go_ret
      exact ⟨rfl, rfl⟩
    · obtain rfl : 0 = v := by rw [← HV.out]; unfold cmpI; rw [if_neg h1, if_neg h2]
      go_enter Tryz.func45, Tryz.ntmps45
      go_wp2_with fail
      refine (r1.out _).mono ?_
      rintro e w' ⟨rfl, rfl⟩
      go_wp2_with fail
      refine (r2.out _).mono ?_
      rintro e w' ⟨rfl, rfl⟩
      go_wp2_with fail
      go_ret
      exact ⟨rfl, rfl⟩
theorem cmpInt {a b v : Int} (hv : cmpI a b = v) (w : World) : Calls Tryz.prog 46 #[.int .i64 a, .int .i64 b] w fun e w' => e = .returned (.int .i64 v) ∧ w = w' := by
  have r1 := Kp.mk (fun w => nanInt a w)
  have r2 := Kp.mk (fun w => nanInt b w)
  have HV := Kp.mk hv
  clear hv
  by_cases h1 : a < b
  · obtain rfl : -1 = v := by rw [← HV.out]; unfold cmpI; rw [if_pos h1]
    go_enter Tryz.func46, Tryz.ntmps46
    go_wp2_with fail
    refine (r1.out _).mono ?_
    rintro e w' ⟨rfl, rfl⟩
    go_wp2_with fail
    refine (r2.out _).mono ?_
    rintro e w' ⟨rfl, rfl⟩
    go_wp2_with fail
    go_ret
    exact ⟨rfl, rfl⟩
  · by_cases h2 : b < a
    · obtain rfl : 1 = v := by rw [← HV.out]; unfold cmpI; rw [if_neg h1, if_pos h2]
      go_enter Tryz.func46, Tryz.ntmps46
      go_wp2_with fail
      refine (r1.out _).mono ?_
      rintro e w' ⟨rfl, rfl⟩
      go_wp2_with fail
      refine (r2.out _).mono ?_
      rintro e w' ⟨rfl, rfl⟩
      go_wp2_with fail
      go_ret
      exact ⟨rfl, rfl⟩
    · obtain rfl : 0 = v := by rw [← HV.out]; unfold cmpI; rw [if_neg h1, if_neg h2]
      go_enter Tryz.func46, Tryz.ntmps46
      go_wp2_with fail
      refine (r1.out _).mono ?_
      rintro e w' ⟨rfl, rfl⟩
      go_wp2_with fail
      refine (r2.out _).mono ?_
      rintro e w' ⟨rfl, rfl⟩
      go_wp2_with fail
      go_ret
      exact ⟨rfl, rfl⟩
/-- the first of three numbers that is not 0 -/
def or3 (a b c : Int) : Int := if a = 0 then (if b = 0 then c else b) else a
theorem or3_a {a b c : Int} (h : ¬ a = 0) : or3 a b c = a := by unfold or3; rw [if_neg h]
theorem or3_b {a b c : Int} (h : a = 0) (g : ¬ b = 0) : or3 a b c = b := by unfold or3; rw [if_pos h, if_neg g]
theorem or3_c {a b c : Int} (h : a = 0 ∧ b = 0) : or3 a b c = c := by unfold or3; rw [if_pos h.1, if_pos h.2]
set_option maxHeartbeats 1000000 in
theorem or3_is {a b c v : Int} (hv : or3 a b c = v) (g : Nat) (w : World) (c0 : w.cell? ⟨g, 0, none⟩ = some (.int .i64 a)) (c1 : w.cell? ⟨g, 1, none⟩ = some (.int .i64 b)) (c2 : w.cell? ⟨g, 2, none⟩ = some (.int .i64 c)) :
    Calls Tryz.prog 44 #[.slice (some ⟨g, 0, none⟩) 3 3] w fun e w' => e = .returned (.int .i64 v) ∧ w = w' := by
  have HV := Kp.mk hv
  clear hv
  go_enter Tryz.func44, Tryz.ntmps44
  go_wp2_with fail
  go_loop [8] (fun i => (i = .int .i64 0) ∨ (i = .int .i64 1 ∧ Kp (a = 0)) ∨ (i = .int .i64 2 ∧ Kp (a = 0 ∧ b = 0)) ∨ (i = .int .i64 3 ∧ Kp (a = 0 ∧ b = 0 ∧ c = 0))) (fun i => (3 - intOf i).toNat)
  case atStart => exact .inl rfl
  case round =>
    rcases hrel with rfl | ⟨rfl, H⟩ | ⟨rfl, H⟩ | ⟨rfl, H⟩
    · by_cases h : a = 0
      · have HK := Kp.mk h
        have t : (a != 0) = false := by rw [h]; rfl
        clear h
        go_wp2_with fail
        go_round
        case rel => exact .inr (.inl ⟨rfl, HK⟩)
        case measure => simp [intOf]
      · have HK := Kp.mk h
        have t : (a != 0) = true := by rw [bne_iff_ne]; exact h
        clear h
        go_wp2_with fail
        go_ret
        exact ⟨by rw [← HV.out, or3_a HK.out]; rfl, rfl⟩
    · by_cases h : b = 0
      · have HK := Kp.mk h
        have t : (b != 0) = false := by rw [h]; rfl
        clear h
        go_wp2_with fail
        go_round
        case rel => exact .inr (.inr (.inl ⟨rfl, Kp.mk ⟨H.out, HK.out⟩⟩))
        case measure => simp [intOf]
      · have HK := Kp.mk h
        have t : (b != 0) = true := by rw [bne_iff_ne]; exact h
        clear h
        go_wp2_with fail
        go_ret
        exact ⟨by rw [← HV.out, or3_b H.out HK.out]; rfl, rfl⟩
    · by_cases h : c = 0
      · have HK := Kp.mk h
        have t : (c != 0) = false := by rw [h]; rfl
        clear h
        go_wp2_with fail
        go_round
        case rel => exact .inr (.inr (.inr ⟨rfl, Kp.mk ⟨H.out.1, H.out.2, HK.out⟩⟩))
        case measure => simp [intOf]
      · have HK := Kp.mk h
        have t : (c != 0) = true := by rw [bne_iff_ne]; exact h
        clear h
        go_wp2_with fail
        go_ret
        exact ⟨by rw [← HV.out, or3_c H.out]; rfl, rfl⟩
    · go_wp2_with fail
      go_ret
      exact ⟨by rw [← HV.out, or3_c ⟨H.out.1, H.out.2.1⟩, H.out.2.2]; rfl, rfl⟩
set_option maxHeartbeats 4000000 in
theorem dCmp {a b c x y z v : Int} (hv : cmpC a b c x y z = v) (w : World) :
    Calls Tryz.prog 25 #[.agg #[.int .i64 a, .int .i64 b, .int .i64 c], .agg #[.int .i64 x, .int .i64 y, .int .i64 z]] w fun e w' => e = .returned (.int .i64 v) ∧ Below w.heap.size w w' := by
  obtain ⟨p, hp⟩ : ∃ p, cmpI a x = p := ⟨_, rfl⟩
  obtain ⟨q, hq⟩ : ∃ q, cmpI b y = q := ⟨_, rfl⟩
  obtain ⟨r, hr⟩ : ∃ r, cmpI c z = r := ⟨_, rfl⟩
  have ho : or3 p q r = v := by rw [← hv, ← hp, ← hq, ← hr]; rfl
  have r1 := Kp.mk (fun w => cmp64 hp w)
  have r2 := Kp.mk (fun w => cmpInt hq w)
  have r3 := Kp.mk (fun w => cmpInt hr w)
  have r4 := Kp.mk (fun g w c0 c1 c2 => or3_is ho g w c0 c1 c2)
  have h1 := cv_new a b c 23 (Below.refl w.heap.size w)
  have h2 := cv_new x y z 23 h1.below
  rw [World.size_alloc] at h2
  have HA := Kp.mk (h1.step ((Below.refl (w.alloc (.cells #[.int .i64 a, .int .i64 b, .int .i64 c] 23)).heap.size _).alloc (Nat.le_refl _) (.cells #[.int .i64 x, .int .i64 y, .int .i64 z] 23)))
  have HC := Kp.mk h2
  clear hp hq hr ho hv h1 h2
  go_enter Tryz.func25, Tryz.ntmps25
  go_upto_region 1 with fail
  generalize (w.alloc (.cells #[.int .i64 a, .int .i64 b, .int .i64 c] 23)).alloc (.cells #[.int .i64 x, .int .i64 y, .int .i64 z] 23) = w0 at *
  have ka0 := HA.out.c0
  have ka1 := HA.out.c1
  have ka2 := HA.out.c2
  have kc0 := HC.out.c0
  have kc1 := HC.out.c1
  have kc2 := HC.out.c2
  have kd0 : w0.drew.cell? ⟨w.heap.size, 0, none⟩ = some (.int .i64 a) := ka0
  have kd1 : w0.drew.cell? ⟨w.heap.size, 1, none⟩ = some (.int .i64 b) := ka1
  have kd2 : w0.drew.cell? ⟨w.heap.size, 2, none⟩ = some (.int .i64 c) := ka2
  have ke0 : w0.drew.cell? ⟨w.heap.size + 1, 0, none⟩ = some (.int .i64 x) := kc0
  have ke1 : w0.drew.cell? ⟨w.heap.size + 1, 1, none⟩ = some (.int .i64 y) := kc1
  have ke2 : w0.drew.cell? ⟨w.heap.size + 1, 2, none⟩ = some (.int .i64 z) := kc2
  have hbl : Below w0.heap.size w0 (w0.alloc (.cells #[.int .i64 p, .int .i64 q, .int .i64 r] 3)).drew := ((Below.refl w0.heap.size w0).alloc (Nat.le_refl _) (.cells #[.int .i64 p, .int .i64 q, .int .i64 r] 3)).trans ((Below.refl (w0.alloc (.cells #[.int .i64 p, .int .i64 q, .int .i64 r] 3)).heap.size _).drew.mono (by simp))
  have HA1 := Kp.mk (HA.out.step hbl)
  have HC1 := Kp.mk (HC.out.step hbl)
  have kg0 := HA1.out.c0
  have kg1 := HA1.out.c1
  have kg2 := HA1.out.c2
  have kh0 := HC1.out.c0
  have kh1 := HC1.out.c1
  have kh2 := HC1.out.c2
  have kn0 : (w0.alloc (.cells #[.int .i64 p, .int .i64 q, .int .i64 r] 3)).drew.cell? ⟨w0.heap.size, 0, none⟩ = some (.int .i64 p) := by show (w0.alloc (.cells #[.int .i64 p, .int .i64 q, .int .i64 r] 3)).cell? _ = _; rw [World.cell?_alloc_new]; rfl
  have kn1 : (w0.alloc (.cells #[.int .i64 p, .int .i64 q, .int .i64 r] 3)).drew.cell? ⟨w0.heap.size, 1, none⟩ = some (.int .i64 q) := by show (w0.alloc (.cells #[.int .i64 p, .int .i64 q, .int .i64 r] 3)).cell? _ = _; rw [World.cell?_alloc_new]; rfl
  have kn2 : (w0.alloc (.cells #[.int .i64 p, .int .i64 q, .int .i64 r] 3)).drew.cell? ⟨w0.heap.size, 2, none⟩ = some (.int .i64 r) := by show (w0.alloc (.cells #[.int .i64 p, .int .i64 q, .int .i64 r] 3)).cell? _ = _; rw [World.cell?_alloc_new]; rfl
  clear hbl
  go_region_held3 (fun w' => w'.cell? ⟨w.heap.size, 0, none⟩ = some (.int .i64 a) ∧ w'.cell? ⟨w.heap.size, 1, none⟩ = some (.int .i64 b) ∧ w'.cell? ⟨w.heap.size, 2, none⟩ = some (.int .i64 c) ∧ w'.cell? ⟨w.heap.size + 1, 0, none⟩ = some (.int .i64 x) ∧ w'.cell? ⟨w.heap.size + 1, 1, none⟩ = some (.int .i64 y) ∧ w'.cell? ⟨w.heap.size + 1, 2, none⟩ = some (.int .i64 z)) (first | (with_reducible exact ⟨ka0, ka1, ka2, kc0, kc1, kc2⟩) | (with_reducible exact ⟨kd0, kd1, kd2, ke0, ke1, ke2⟩) | (with_reducible exact ⟨kg0, kg1, kg2, kh0, kh1, kh2⟩))
    (first
    | (go_at_call 45; refine (r1.out _).mono ?_; rintro e w' ⟨rfl, rfl⟩)
    | (go_at_call 46; (with_reducible refine (r2.out _).mono ?_); rintro e w' ⟨rfl, rfl⟩)
    | (go_at_call 46; (with_reducible refine (r3.out _).mono ?_); rintro e w' ⟨rfl, rfl⟩)
    | (go_at_call 44; refine (r4.out w0.heap.size _ kn0 kn1 kn2).mono ?_; rintro e w' ⟨rfl, rfl⟩))
  go_wp2_with fail
  go_ret
  exact ⟨rfl, HA1.out.below⟩
end Go.Proofs.YtoafigehcgledaaGreatDoor
