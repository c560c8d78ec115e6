/-
 DERIVED. CONTRACTS of package runsets (the developers' functions): isBehind, Check, checkSome, checkBoth, Min, Max, cut. Written by mkrsd1.py.
-/
import Derived.Test.YtndjcmclmhoigaaGreatDoorPB6
import Derived.Test.YtndjcmclmhoigaaGreatDoorPB9
import Derived.Test.YtndjcmclmhoigaaGreatDoorPA6
import Derived.Test.YtndjcmclmhoigaaGreatDoorPB4
namespace Go.Proofs.YtndjcmclmhoigaaGreatDoor
open Go.RowKit
set_option maxRecDepth 100000

/-- the variables that package runsets reads: the first and the last end, and those of package runs -/
structure LaidRs (w : World) : Prop where
 rn : LaidRn w
 f0 : w.cell? ⟨0, 0, none⟩ = some (.int .i8 (-1))
 f1 : w.cell? ⟨0, 1, none⟩ = some (.int .i64 0)
 l0 : w.cell? ⟨1, 0, none⟩ = some (.int .i8 1)
 l1 : w.cell? ⟨1, 1, none⟩ = some (.int .i64 0)
 size : 0 < w.heap.size ∧ 1 < w.heap.size
theorem LaidRs.below {w w' : World} (h : LaidRs w) (hb : Below w.heap.size w w') : LaidRs w' where
 rn := h.rn.below hb
 f0 := by rw [hb.cell (p := ⟨0, 0, none⟩) h.size.1]; exact h.f0
 f1 := by rw [hb.cell (p := ⟨0, 1, none⟩) h.size.1]; exact h.f1
 l0 := by rw [hb.cell (p := ⟨1, 0, none⟩) h.size.2]; exact h.l0
 l1 := by rw [hb.cell (p := ⟨1, 1, none⟩) h.size.2]; exact h.l1
 size := ⟨Nat.lt_of_lt_of_le h.size.1 hb.size, Nat.lt_of_lt_of_le h.size.2 hb.size⟩
theorem LaidRs.en {w : World} (h : LaidRs w) : LaidEn w := h.rn.en
variable {w W W' : World} {a b : Option Addr} {l m : List Rn}
/-- a run's own block -/
theorem ro_of {r : Rn} (hb : Below w.heap.size w W) : Ro w W.heap.size r (W.alloc (.cells #[.int .i8 r.f, .int .i64 r.d, .int .i8 r.g, .int .i64 r.e] 26)) := ⟨hb.alloc hb.size _, hb.size, heap_alloc_new _ _⟩
set_option maxHeartbeats 4000000 in
theorem dBehind_is {a b : Rn} {v : Bool} (ha : a.In) (hb : b.In) (hv : decide (¬ (0 ≤ cmpE b.g b.e a.f a.d ∨ touchN b a = true)) = v) (w : World) (hL : LaidEn w) :
 Calls Tryz.prog 109 #[.agg #[.int .i8 a.f, .int .i64 a.d, .int .i8 a.g, .int .i64 a.e], .agg #[.int .i8 b.f, .int .i64 b.d, .int .i8 b.g, .int .i64 b.e]] w fun x w' => x = .returned (.bool v) ∧ Below w.heap.size w w' := by
 have HA := Kp.mk (rg_two w a b).1
 have HC := Kp.mk (rg_two w a b).2
 have HB := Kp.mk (bl_of HA.out)
 obtain ⟨q, hq⟩ : ∃ q, cmpE b.g b.e a.f a.d = q := ⟨_, rfl⟩
 obtain ⟨t, ht⟩ : ∃ t, touchN b a = t := ⟨_, rfl⟩
 have r1 : Kp (∀ u, Below w.heap.size w u → Calls Tryz.prog 75 #[.agg #[.int .i8 b.g, .int .i64 b.e], .agg #[.int .i8 a.f, .int .i64 a.d]] u fun e w' => e = .returned (.int .i64 q) ∧ Below u.heap.size u w') := Kp.mk (fun u hw => dCmp_is hq u)
 have r2 : Kp (∀ u, Below w.heap.size w u → Calls Tryz.prog 22 #[.agg #[.int .i8 b.f, .int .i64 b.d, .int .i8 b.g, .int .i64 b.e], .agg #[.int .i8 a.f, .int .i64 a.d, .int .i8 a.g, .int .i64 a.e]] u fun e w' => e = .returned (.bool t) ∧ Below u.heap.size u w') := Kp.mk (fun u hw => dTouch_is hb ha ht u (hL.below hw))
 rw [hq, ht] at hv
 clear hq ht ha hb hL
 by_cases h1 : q < 0
 ·cases t with
  | true =>
   obtain rfl : false = v := by rw [← hv]; symm; rw [decide_eq_false_iff_not]; exact fun h => h (.inr rfl)
   clear hv
   go_enter Tryz.func109, Tryz.ntmps109
   go_upto_region 1 with fail
   generalize ((w.alloc (.cells #[.int .i8 a.f, .int .i64 a.d, .int .i8 a.g, .int .i64 a.e] 26)).alloc (.cells #[.int .i8 b.f, .int .i64 b.d, .int .i8 b.g, .int .i64 b.e] 26)) = w0 at *
   have kHA0 := HA.out.c0
   have kHA1 := HA.out.c1
   have kHA2 := HA.out.c2
   have kHA3 := HA.out.c3
   have kHC0 := HC.out.c0
   have kHC1 := HC.out.c1
   have kHC2 := HC.out.c2
   have kHC3 := HC.out.c3
   go_wp2_with fail
   refine (r1.out _ HB.out.below).mono ?_
   rintro e u1 ⟨rfl, hbl⟩
   clear kHA0 kHA1 kHA2 kHA3 kHC0 kHC1 kHC2 kHC3
   have HB := Kp.mk (HB.out.step hbl)
   have HA := Kp.mk (HA.out.step hbl)
   have HC := Kp.mk (HC.out.step hbl)
   clear hbl
   have kHA0 := HA.out.c0
   have kHA1 := HA.out.c1
   have kHA2 := HA.out.c2
   have kHA3 := HA.out.c3
   have kHC0 := HC.out.c0
   have kHC1 := HC.out.c1
   have kHC2 := HC.out.c2
   have kHC3 := HC.out.c3
   go_wp2_with fail
   refine (r2.out _ HB.out.below).mono ?_
   rintro e u2 ⟨rfl, hbl⟩
   clear kHA0 kHA1 kHA2 kHA3 kHC0 kHC1 kHC2 kHC3
   have HB := Kp.mk (HB.out.step hbl)
   have HA := Kp.mk (HA.out.step hbl)
   have HC := Kp.mk (HC.out.step hbl)
   clear hbl
   have kHA0 := HA.out.c0
   have kHA1 := HA.out.c1
   have kHA2 := HA.out.c2
   have kHA3 := HA.out.c3
   have kHC0 := HC.out.c0
   have kHC1 := HC.out.c1
   have kHC2 := HC.out.c2
   have kHC3 := HC.out.c3
   go_wp2_with fail
   go_ret
   exact ⟨rfl, HB.out.below⟩
  | false =>
   obtain rfl : true = v := by rw [← hv]; symm; rw [decide_eq_true_iff]; rintro (h | h); omega; cases h
   clear hv
   go_enter Tryz.func109, Tryz.ntmps109
   go_upto_region 1 with fail
   generalize ((w.alloc (.cells #[.int .i8 a.f, .int .i64 a.d, .int .i8 a.g, .int .i64 a.e] 26)).alloc (.cells #[.int .i8 b.f, .int .i64 b.d, .int .i8 b.g, .int .i64 b.e] 26)) = w0 at *
   have kHA0 := HA.out.c0
   have kHA1 := HA.out.c1
   have kHA2 := HA.out.c2
   have kHA3 := HA.out.c3
   have kHC0 := HC.out.c0
   have kHC1 := HC.out.c1
   have kHC2 := HC.out.c2
   have kHC3 := HC.out.c3
   go_wp2_with fail
   refine (r1.out _ HB.out.below).mono ?_
   rintro e u1 ⟨rfl, hbl⟩
   clear kHA0 kHA1 kHA2 kHA3 kHC0 kHC1 kHC2 kHC3
   have HB := Kp.mk (HB.out.step hbl)
   have HA := Kp.mk (HA.out.step hbl)
   have HC := Kp.mk (HC.out.step hbl)
   clear hbl
   have kHA0 := HA.out.c0
   have kHA1 := HA.out.c1
   have kHA2 := HA.out.c2
   have kHA3 := HA.out.c3
   have kHC0 := HC.out.c0
   have kHC1 := HC.out.c1
   have kHC2 := HC.out.c2
   have kHC3 := HC.out.c3
   go_wp2_with fail
   refine (r2.out _ HB.out.below).mono ?_
   rintro e u2 ⟨rfl, hbl⟩
   clear kHA0 kHA1 kHA2 kHA3 kHC0 kHC1 kHC2 kHC3
   have HB := Kp.mk (HB.out.step hbl)
   have HA := Kp.mk (HA.out.step hbl)
   have HC := Kp.mk (HC.out.step hbl)
   clear hbl
   have kHA0 := HA.out.c0
   have kHA1 := HA.out.c1
   have kHA2 := HA.out.c2
   have kHA3 := HA.out.c3
   have kHC0 := HC.out.c0
   have kHC1 := HC.out.c1
   have kHC2 := HC.out.c2
   have kHC3 := HC.out.c3
   go_wp2_with fail
   go_ret
   exact ⟨rfl, HB.out.below⟩
 ·obtain rfl : false = v := by rw [← hv]; symm; rw [decide_eq_false_iff_not]; exact fun h => h (.inl (by omega))
  clear hv
  go_enter Tryz.func109, Tryz.ntmps109
  go_upto_region 1 with fail
  generalize ((w.alloc (.cells #[.int .i8 a.f, .int .i64 a.d, .int .i8 a.g, .int .i64 a.e] 26)).alloc (.cells #[.int .i8 b.f, .int .i64 b.d, .int .i8 b.g, .int .i64 b.e] 26)) = w0 at *
  have kHA0 := HA.out.c0
  have kHA1 := HA.out.c1
  have kHA2 := HA.out.c2
  have kHA3 := HA.out.c3
  have kHC0 := HC.out.c0
  have kHC1 := HC.out.c1
  have kHC2 := HC.out.c2
  have kHC3 := HC.out.c3
  go_wp2_with fail
  refine (r1.out _ HB.out.below).mono ?_
  rintro e u1 ⟨rfl, hbl⟩
  clear kHA0 kHA1 kHA2 kHA3 kHC0 kHC1 kHC2 kHC3
  have HB := Kp.mk (HB.out.step hbl)
  have HA := Kp.mk (HA.out.step hbl)
  have HC := Kp.mk (HC.out.step hbl)
  clear hbl
  have kHA0 := HA.out.c0
  have kHA1 := HA.out.c1
  have kHA2 := HA.out.c2
  have kHA3 := HA.out.c3
  have kHC0 := HC.out.c0
  have kHC1 := HC.out.c1
  have kHC2 := HC.out.c2
  have kHC3 := HC.out.c3
  go_wp2_with fail
  go_ret
  exact ⟨rfl, HB.out.below⟩
set_option maxHeartbeats 4000000 in
theorem dChkS_is {c : Int} {cap : Nat} (hin : ∀ r, r ∈ l → r.In) (hc : chkRs l = c) (hn : l.length ≤ maxLen) (hl : Lr w a l w) (hL : LaidEn w) :
 Calls Tryz.prog 47 #[.slice a l.length cap] w fun x w' => x = .returned (.int .i64 c) ∧ Below w.heap.size w w' := by
 have HL := Kp.mk hl
 have HI := Kp.mk hin
 have HE := Kp.mk hL
 have hn2 : l.length ≤ 9223372036854775807 := by unfold maxLen at hn; omega
 clear hl hin hn hL
 unfold chkRs at hc
 by_cases h0 : 4096 < l.length
 ·rw [if_pos h0] at hc
  subst hc
  have t0 : decide ((4096 : Int) < (l.length : Int)) = true := decide_eq_true (by omega)
  go_enter Tryz.func47, Tryz.ntmps47
  go_wp2_with fail
  go_ret
  exact ⟨rfl, HL.out.below⟩
 ·rw [if_neg h0] at hc
  obtain ⟨n, hnn⟩ : ∃ n, l.length = n := ⟨_, rfl⟩
  rw [hnn] at h0 hn2 ⊢
  have t0 : decide ((4096 : Int) < (n : Int)) = false := decide_eq_false (by omega)
  go_enter Tryz.func47, Tryz.ntmps47
  go_wp2_with fail
  go_loopw [11] (fun i wr => ∃ p : Nat, p ≤ n ∧ i = .int .i64 (p : Int) ∧ chkFrom (prvR l p) (l.drop p) = c ∧ Kp (OkTo l p) ∧ Kp (Lr w a l wr)) (fun i _ => n - (intOf i).toNat)
  case atStart => exact ⟨0, by omega, rfl, hc, ⟨fun _ _ h => by omega⟩, HL⟩
  case round =>
   obtain ⟨p, hp, rfl, hq, HO, HL⟩ := hrel
   by_cases h1 : p < n
   ·have t1 : decide ((p : Int) < (n : Int)) = true := decide_eq_true (by omega)
    have b1 : (p : Int) < (n : Int) := by omega
    obtain ⟨r, hr⟩ : ∃ r, l[p]? = some r := ⟨l[p]'(by omega), List.getElem?_eq_getElem (by omega)⟩
    obtain ⟨g, s, rfl⟩ := HL.out.place hr
    rw [drop_at hr] at hq
    have hri := HI.out r (List.mem_of_getElem? hr)
    obtain ⟨v, hv⟩ : ∃ v, chkR r = v := ⟨_, rfl⟩
    have rc : Kp (∀ u, Below w.heap.size w u → Calls Tryz.prog 15 #[.agg #[.int .i8 r.f, .int .i64 r.d, .int .i8 r.g, .int .i64 r.e]] u fun e w' => e = .returned (.int .i64 v) ∧ Below u.heap.size u w') := Kp.mk (fun u hw => dRChk_is hri hv u (HE.out.below hw))
    have wp1 : IntKind.i64.wrap ((p : Int) + 1) = (p : Int) + 1 := IntWalk.i64_in _ (by omega)
    obtain ⟨k0, k1, k2, k3⟩ := HL.out.cells hr
    go_upto_region 6 with fail
    clear k0 k1 k2 k3
    have hbl := (Below.refl wr.heap.size wr).alloc (Nat.le_refl _) (.cells #[.int .i8 r.f, .int .i64 r.d, .int .i8 r.g, .int .i64 r.e] 26)
    have HR := Kp.mk (ro_of (r := r) HL.out.below)
    have HL := Kp.mk (HL.out.step hbl)
    clear hbl
    generalize wr.alloc (.cells #[.int .i8 r.f, .int .i64 r.d, .int .i8 r.g, .int .i64 r.e] 26) = u0 at *
    generalize wr.heap.size = gr at *
    by_cases h2 : v = 0
    ·subst h2
     have hok := (chkR_zero hri).1 hv
     unfold chkFrom at hq
     rw [if_pos hv] at hq
     by_cases h3 : p = 0
     ·have hq : chkFrom (some r) (l.drop (p + 1)) = c := by rw [h3] at hq ⊢; exact hq
      have t3n : decide (0 < p) = false := decide_eq_false (by omega)
      have HO := Kp.mk (HO.out.more hok hr)
      clear hv hok hri h3
      obtain ⟨r0, r1, r2, r3⟩ := HR.out.cs
      go_wp2_with fail
      refine (rc.out _ HL.out.below).mono ?_
      rintro e y1 ⟨rfl, hbl⟩
      have HL := Kp.mk (HL.out.step hbl)
      have HR := Kp.mk (HR.out.step hbl)
      clear hbl
      clear r0 r1 r2 r3
      go_upto_region 9 with fail
      have hbl := (Below.refl y1.heap.size y1).drew
      have HLz := Kp.mk (HL.out.step hbl)
      have HRz := Kp.mk (HR.out.step hbl)
      obtain ⟨k0z, k1z, k2z, k3z⟩ := HRz.out.cs
      clear hbl
      refine wp_region_held_drew (S := fun w' => w'.cell? ⟨gr, 0, none⟩ = some (.int .i8 r.f) ∧ w'.cell? ⟨gr, 1, none⟩ = some (.int .i64 r.d) ∧ w'.cell? ⟨gr, 2, none⟩ = some (.int .i8 r.g) ∧ w'.cell? ⟨gr, 3, none⟩ = some (.int .i64 r.e)) (by kernel_rfl) ?_ (fun hHeld => ?_)
      ·with_reducible exact ⟨k0z, k1z, k2z, k3z⟩
      refine tk 0 ?_ rfl hHeld ?_ ?_
      rotate_left
      ·(intro w hSw; (try dsimp only at hSw); go_simp; try with_reducible rfl)
      try simp only [pt]
      refine tk 1 ?_ rfl hHeld ?_ ?_
      rotate_left
      ·(intro w hSw; (try dsimp only at hSw); go_simp; try with_reducible rfl)
      try simp only [pt]
      refine tk 2 ?_ rfl hHeld ?_ ?_
      rotate_left
      ·(intro w hSw; (try dsimp only at hSw); go_simp; try with_reducible rfl)
      try simp only [pt]
      refine takeOut (i := 3) rfl (by kernel_rfl) (by kernel_rfl) (by kernel_rfl) (fun _ _ _ h => h) (by rfl) hHeld ?_
      try simp only [pt]
      refine takeOut (i := 4) rfl (by kernel_rfl) (by kernel_rfl) (by kernel_rfl) (fun _ _ _ h => h) (by rfl) hHeld ?_
      try simp only [pt]
      refine takeOut (i := 5) rfl (by kernel_rfl) (by kernel_rfl) (by kernel_rfl) (fun _ _ _ h => h) (by rfl) hHeld ?_
      try simp only [pt]
      refine takeOut (i := 6) rfl (by kernel_rfl) (by kernel_rfl) (by kernel_rfl) (fun _ _ _ h => h) (by rfl) hHeld ?_
      try simp only [pt]
      refine takeOut (i := 7) rfl (by kernel_rfl) (by kernel_rfl) (by kernel_rfl) (fun _ _ _ h => h) (by rfl) hHeld ?_
      try simp only [pt]
      refine takeOut (i := 8) rfl (by kernel_rfl) (by kernel_rfl) (by kernel_rfl) (fun _ _ _ h => h) (by rfl) hHeld ?_
      try simp only [pt]
      refine takeOut (i := 9) rfl (by kernel_rfl) (by kernel_rfl) (by kernel_rfl) (fun _ _ _ h => h) (by rfl) hHeld ?_
      try simp only [pt]
      refine takeOut (i := 10) rfl (by kernel_rfl) (by kernel_rfl) (by kernel_rfl) (fun _ _ _ h => h) (by rfl) hHeld ?_
      try simp only [pt]
      refine tk 11 ?_ rfl hHeld ?_ ?_
      rotate_left
      ·(intro w hSw; (try dsimp only at hSw); go_simp; try with_reducible rfl)
      try simp only [pt]
      refine wpAnyH_done (by kernel_rfl) ?_ _
      clear hHeld
      have HL := HLz
      have HR := HRz
      clear k0z k1z k2z k3z
      go_wp2_with fail
      go_roundw
      case rel => exact ⟨p + 1, by omega, by go_num, by show chkFrom (l[p]?) _ = _; rw [hr]; exact hq, HO, HL⟩
      case measure => simp [intOf]; omega
     ·obtain ⟨q, hqs⟩ : ∃ q, l[p - 1]? = some q := ⟨l[p - 1]'(by omega), List.getElem?_eq_getElem (by omega)⟩
      have t3 : decide ((0 : Int) < (p : Int)) = true := decide_eq_true (by omega)
      have t3n : decide (0 < p) = true := decide_eq_true (by omega)
      have b4 : 0 < p := by omega
      have b5 : (0 : Int) < (p : Int) := by omega
      have wp2 : IntKind.i64.wrap ((p : Int) - 1) = ((p - 1 : Nat) : Int) := by rw [IntWalk.i64_in _ (by omega)]; omega
      have b3 : ((p - 1 : Nat) : Int) < (n : Int) := by omega
      have hqo : q.Ok := HO.out q (p - 1) (by omega) hqs
      have hq : (if 0 ≤ cmpE q.g q.e r.f r.d ∨ touchN q r = true then 12 else chkFrom (some r) (l.drop (p + 1))) = c := by
       have e : prvR l p = some q := by
        obtain ⟨m, rfl⟩ : ∃ m, p = m + 1 := ⟨p - 1, by omega⟩
        exact hqs
       rw [e] at hq
       exact hq
      obtain ⟨x, hx⟩ : ∃ x, decide (¬ (0 ≤ cmpE q.g q.e r.f r.d ∨ touchN q r = true)) = x := ⟨_, rfl⟩
      have rb : Kp (∀ u, Below w.heap.size w u → Calls Tryz.prog 109 #[.agg #[.int .i8 r.f, .int .i64 r.d, .int .i8 r.g, .int .i64 r.e], .agg #[.int .i8 q.f, .int .i64 q.d, .int .i8 q.g, .int .i64 q.e]] u fun e w' => e = .returned (.bool x) ∧ Below u.heap.size u w') := Kp.mk (fun u hw => dBehind_is hri hqo.toIn hx u (HE.out.below hw))
      cases x with
      | false =>
       rw [if_pos (Decidable.not_not.1 (of_decide_eq_false hx))] at hq
       subst hq
       clear hv hok hri h3 hqo hx
       obtain ⟨r0, r1, r2, r3⟩ := HR.out.cs
       go_wp2_with fail
       refine (rc.out _ HL.out.below).mono ?_
       rintro e y1 ⟨rfl, hbl⟩
       have HL := Kp.mk (HL.out.step hbl)
       have HR := Kp.mk (HR.out.step hbl)
       clear hbl
       clear r0 r1 r2 r3
       go_upto_region 9 with fail
       have hbl := (Below.refl y1.heap.size y1).drew
       have HLz := Kp.mk (HL.out.step hbl)
       have HRz := Kp.mk (HR.out.step hbl)
       obtain ⟨k0z, k1z, k2z, k3z⟩ := HRz.out.cs
       obtain ⟨k4z, k5z, k6z, k7z⟩ := HLz.out.cells hqs
       clear hbl
       refine wp_region_held_drew (S := fun w' => w'.cell? ⟨gr, 0, none⟩ = some (.int .i8 r.f) ∧ w'.cell? ⟨gr, 1, none⟩ = some (.int .i64 r.d) ∧ w'.cell? ⟨gr, 2, none⟩ = some (.int .i8 r.g) ∧ w'.cell? ⟨gr, 3, none⟩ = some (.int .i64 r.e) ∧ w'.cell? ⟨g, s + (p - 1) * 4, none⟩ = some (.int .i8 q.f) ∧ w'.cell? ⟨g, s + (p - 1) * 4 + 1, none⟩ = some (.int .i64 q.d) ∧ w'.cell? ⟨g, s + (p - 1) * 4 + 2, none⟩ = some (.int .i8 q.g) ∧ w'.cell? ⟨g, s + (p - 1) * 4 + 3, none⟩ = some (.int .i64 q.e)) (by kernel_rfl) ?_ (fun hHeld => ?_)
       ·with_reducible exact ⟨k0z, k1z, k2z, k3z, k4z, k5z, k6z, k7z⟩
       refine tk 0 ?_ rfl hHeld ?_ ?_
       rotate_left
       ·(intro w hSw; (try dsimp only at hSw); go_simp; try with_reducible rfl)
       try simp only [pt]
       refine tk 1 ?_ rfl hHeld ?_ ?_
       rotate_left
       ·(intro w hSw; (try dsimp only at hSw); go_simp; try with_reducible rfl)
       try simp only [pt]
       refine tk 2 ?_ rfl hHeld ?_ ?_
       rotate_left
       ·(intro w hSw; (try dsimp only at hSw); go_simp; try with_reducible rfl)
       try simp only [pt]
       refine tk 3 ?_ rfl hHeld ?_ ?_
       rotate_left
       ·(intro w hSw; (try dsimp only at hSw); go_simp; try with_reducible rfl)
       try simp only [pt]
       refine tk 4 ?_ rfl hHeld ?_ ?_
       rotate_left
       ·(intro w hSw; (try dsimp only at hSw); go_simp; try with_reducible rfl)
       try simp only [pt]
       refine tk 5 ?_ rfl hHeld ?_ ?_
       rotate_left
       ·(intro w hSw; (try dsimp only at hSw); go_simp; try with_reducible rfl)
       try simp only [pt]
       refine tk 6 ?_ rfl hHeld ?_ ?_
       rotate_left
       ·(intro w hSw; (try dsimp only at hSw); go_simp; try with_reducible rfl)
       try simp only [pt]
       refine tk 7 ?_ rfl hHeld ?_ ?_
       rotate_left
       ·(intro w hSw; (try dsimp only at hSw); go_simp; try with_reducible rfl)
       try simp only [pt]
       refine tk 8 ?_ rfl hHeld ?_ ?_
       rotate_left
       ·(intro w hSw; (try dsimp only at hSw); go_simp; try with_reducible rfl)
       try simp only [pt]
       refine rd [9] ?_
       refine AllReadyH.cons (dropAt rfl) (fun K hK => ?_) AllReadyH.nil
       go_simp
       go_at_call 109
       with_reducible refine (rb.out _ HLz.out.below).mono ?_
       rintro e y2 ⟨rfl, hb⟩
       have HL_y2 := Kp.mk (HLz.out.step hb)
       have HR_y2 := Kp.mk (HRz.out.step hb)
       obtain ⟨k0_y2, k1_y2, k2_y2, k3_y2⟩ := HR_y2.out.cs
       obtain ⟨k4_y2, k5_y2, k6_y2, k7_y2⟩ := HL_y2.out.cells hqs
       clear hHeld k0z k1z k2z k3z k4z k5z k6z k7z HLz HRz hb
       go_wp2_with fail
       refine hK.out _ _ ?_ (fun hHeld => ?_)
       ·with_reducible exact ⟨k0_y2, k1_y2, k2_y2, k3_y2, k4_y2, k5_y2, k6_y2, k7_y2⟩
       clear hK K
       try simp only [pt]
       refine tk 10 ?_ rfl hHeld ?_ ?_
       rotate_left
       ·(intro w hSw; (try dsimp only at hSw); go_simp; try with_reducible rfl)
       try simp only [pt]
       refine tk 11 ?_ rfl hHeld ?_ ?_
       rotate_left
       ·(intro w hSw; (try dsimp only at hSw); go_simp; try with_reducible rfl)
       try simp only [pt]
       refine wpAnyH_done (by kernel_rfl) ?_ _
       clear hHeld
       have HL := HL_y2
       have HR := HR_y2
       clear k0_y2 k1_y2 k2_y2 k3_y2 k4_y2 k5_y2 k6_y2 k7_y2
       go_wp2_with fail
       go_ret
       exact ⟨rfl, HL.out.below⟩
      | true =>
       rw [if_neg (of_decide_eq_true hx)] at hq
       have HO := Kp.mk (HO.out.more hok hr)
       clear hv hok hri h3 hqo hx
       obtain ⟨r0, r1, r2, r3⟩ := HR.out.cs
       go_wp2_with fail
       refine (rc.out _ HL.out.below).mono ?_
       rintro e y1 ⟨rfl, hbl⟩
       have HL := Kp.mk (HL.out.step hbl)
       have HR := Kp.mk (HR.out.step hbl)
       clear hbl
       clear r0 r1 r2 r3
       go_upto_region 9 with fail
       have hbl := (Below.refl y1.heap.size y1).drew
       have HLz := Kp.mk (HL.out.step hbl)
       have HRz := Kp.mk (HR.out.step hbl)
       obtain ⟨k0z, k1z, k2z, k3z⟩ := HRz.out.cs
       obtain ⟨k4z, k5z, k6z, k7z⟩ := HLz.out.cells hqs
       clear hbl
       refine wp_region_held_drew (S := fun w' => w'.cell? ⟨gr, 0, none⟩ = some (.int .i8 r.f) ∧ w'.cell? ⟨gr, 1, none⟩ = some (.int .i64 r.d) ∧ w'.cell? ⟨gr, 2, none⟩ = some (.int .i8 r.g) ∧ w'.cell? ⟨gr, 3, none⟩ = some (.int .i64 r.e) ∧ w'.cell? ⟨g, s + (p - 1) * 4, none⟩ = some (.int .i8 q.f) ∧ w'.cell? ⟨g, s + (p - 1) * 4 + 1, none⟩ = some (.int .i64 q.d) ∧ w'.cell? ⟨g, s + (p - 1) * 4 + 2, none⟩ = some (.int .i8 q.g) ∧ w'.cell? ⟨g, s + (p - 1) * 4 + 3, none⟩ = some (.int .i64 q.e)) (by kernel_rfl) ?_ (fun hHeld => ?_)
       ·with_reducible exact ⟨k0z, k1z, k2z, k3z, k4z, k5z, k6z, k7z⟩
       refine tk 0 ?_ rfl hHeld ?_ ?_
       rotate_left
       ·(intro w hSw; (try dsimp only at hSw); go_simp; try with_reducible rfl)
       try simp only [pt]
       refine tk 1 ?_ rfl hHeld ?_ ?_
       rotate_left
       ·(intro w hSw; (try dsimp only at hSw); go_simp; try with_reducible rfl)
       try simp only [pt]
       refine tk 2 ?_ rfl hHeld ?_ ?_
       rotate_left
       ·(intro w hSw; (try dsimp only at hSw); go_simp; try with_reducible rfl)
       try simp only [pt]
       refine tk 3 ?_ rfl hHeld ?_ ?_
       rotate_left
       ·(intro w hSw; (try dsimp only at hSw); go_simp; try with_reducible rfl)
       try simp only [pt]
       refine tk 4 ?_ rfl hHeld ?_ ?_
       rotate_left
       ·(intro w hSw; (try dsimp only at hSw); go_simp; try with_reducible rfl)
       try simp only [pt]
       refine tk 5 ?_ rfl hHeld ?_ ?_
       rotate_left
       ·(intro w hSw; (try dsimp only at hSw); go_simp; try with_reducible rfl)
       try simp only [pt]
       refine tk 6 ?_ rfl hHeld ?_ ?_
       rotate_left
       ·(intro w hSw; (try dsimp only at hSw); go_simp; try with_reducible rfl)
       try simp only [pt]
       refine tk 7 ?_ rfl hHeld ?_ ?_
       rotate_left
       ·(intro w hSw; (try dsimp only at hSw); go_simp; try with_reducible rfl)
       try simp only [pt]
       refine tk 8 ?_ rfl hHeld ?_ ?_
       rotate_left
       ·(intro w hSw; (try dsimp only at hSw); go_simp; try with_reducible rfl)
       try simp only [pt]
       refine rd [9] ?_
       refine AllReadyH.cons (dropAt rfl) (fun K hK => ?_) AllReadyH.nil
       go_simp
       go_at_call 109
       with_reducible refine (rb.out _ HLz.out.below).mono ?_
       rintro e y2 ⟨rfl, hb⟩
       have HL_y2 := Kp.mk (HLz.out.step hb)
       have HR_y2 := Kp.mk (HRz.out.step hb)
       obtain ⟨k0_y2, k1_y2, k2_y2, k3_y2⟩ := HR_y2.out.cs
       obtain ⟨k4_y2, k5_y2, k6_y2, k7_y2⟩ := HL_y2.out.cells hqs
       clear hHeld k0z k1z k2z k3z k4z k5z k6z k7z HLz HRz hb
       go_wp2_with fail
       refine hK.out _ _ ?_ (fun hHeld => ?_)
       ·with_reducible exact ⟨k0_y2, k1_y2, k2_y2, k3_y2, k4_y2, k5_y2, k6_y2, k7_y2⟩
       clear hK K
       try simp only [pt]
       refine tk 10 ?_ rfl hHeld ?_ ?_
       rotate_left
       ·(intro w hSw; (try dsimp only at hSw); go_simp; try with_reducible rfl)
       try simp only [pt]
       refine tk 11 ?_ rfl hHeld ?_ ?_
       rotate_left
       ·(intro w hSw; (try dsimp only at hSw); go_simp; try with_reducible rfl)
       try simp only [pt]
       refine wpAnyH_done (by kernel_rfl) ?_ _
       clear hHeld
       have HL := HL_y2
       have HR := HR_y2
       clear k0_y2 k1_y2 k2_y2 k3_y2 k4_y2 k5_y2 k6_y2 k7_y2
       go_wp2_with fail
       go_roundw
       case rel => exact ⟨p + 1, by omega, by go_num, by show chkFrom (l[p]?) _ = _; rw [hr]; exact hq, HO, HL⟩
       case measure => simp [intOf]; omega
    ·have hq : v = c := by rw [← hq, ← hv]; unfold chkFrom; rw [if_neg (by rw [hv]; exact h2)]
     have t2 : (v != 0) = true := by rw [bne_iff_ne]; exact h2
     subst hq
     clear hv hri h2
     obtain ⟨r0, r1, r2, r3⟩ := HR.out.cs
     go_wp2_with fail
     refine (rc.out _ HL.out.below).mono ?_
     rintro e v1 ⟨rfl, hbl⟩
     have HL := Kp.mk (HL.out.step hbl)
     clear hbl r0 r1 r2 r3
     go_wp2_with fail
     go_ret
     exact ⟨rfl, HL.out.below⟩
   ·obtain rfl : p = n := by omega
    rw [List.drop_of_length_le (by omega)] at hq
    obtain rfl : 0 = c := by rw [← hq]; cases prvR l p <;> rfl
    go_wp2_with fail
    go_ret
    exact ⟨rfl, HL.out.below⟩
set_option maxHeartbeats 4000000 in
theorem dSome_bad {c : Int} {cap n : Nat} (h0 : ¬ c = 0) (hI : ∀ u, Below w.heap.size w u → Calls Tryz.prog 47 #[.slice a n cap] u fun x w' => x = .returned (.int .i64 c) ∧ Below u.heap.size u w') :
 Calls Tryz.prog 124 #[.slice a n cap] w fun x w' => x = .returned (.int .i64 c) ∧ Below w.heap.size w w' := by
 have HB := Kp.mk (Bl.mk (Below.refl w.heap.size w))
 have r1 := Kp.mk hI
 have t1 : (c != 0) = true := by rw [bne_iff_ne]; exact h0
 clear h0
 clear hI
 go_enter Tryz.func124, Tryz.ntmps124
 go_wp2_with fail
 refine (r1.out _ HB.out.below).mono ?_
 rintro e v1 ⟨rfl, hb⟩
 have HB := Kp.mk (HB.out.step hb)
 clear hb r1
 go_wp2_with fail
 go_ret
 exact ⟨rfl, HB.out.below⟩
set_option maxHeartbeats 4000000 in
theorem dSome_no {cap n : Nat} (h0 : n = 0) (hI : ∀ u, Below w.heap.size w u → Calls Tryz.prog 47 #[.slice a n cap] u fun x w' => x = .returned (.int .i64 0) ∧ Below u.heap.size u w') :
 Calls Tryz.prog 124 #[.slice a n cap] w fun x w' => x = .returned (.int .i64 17) ∧ Below w.heap.size w w' := by
 have HB := Kp.mk (Bl.mk (Below.refl w.heap.size w))
 have r1 := Kp.mk hI
 subst h0
 clear hI
 go_enter Tryz.func124, Tryz.ntmps124
 go_wp2_with fail
 refine (r1.out _ HB.out.below).mono ?_
 rintro e v1 ⟨rfl, hb⟩
 have HB := Kp.mk (HB.out.step hb)
 clear hb r1
 go_wp2_with fail
 go_ret
 exact ⟨rfl, HB.out.below⟩
set_option maxHeartbeats 4000000 in
theorem dSome_ok {cap n : Nat} (h0 : 0 < n) (hI : ∀ u, Below w.heap.size w u → Calls Tryz.prog 47 #[.slice a n cap] u fun x w' => x = .returned (.int .i64 0) ∧ Below u.heap.size u w') :
 Calls Tryz.prog 124 #[.slice a n cap] w fun x w' => x = .returned (.int .i64 0) ∧ Below w.heap.size w w' := by
 have HB := Kp.mk (Bl.mk (Below.refl w.heap.size w))
 have r1 := Kp.mk hI
 have t1 : ((n : Int) == 0) = false := by rw [beq_eq_false_iff_ne]; omega
 clear hI
 go_enter Tryz.func124, Tryz.ntmps124
 go_wp2_with fail
 refine (r1.out _ HB.out.below).mono ?_
 rintro e v1 ⟨rfl, hb⟩
 have HB := Kp.mk (HB.out.step hb)
 clear hb r1
 go_wp2_with fail
 go_ret
 exact ⟨rfl, HB.out.below⟩
theorem run_cut {n p : Nat} (h : n ≤ p) (W : World) : (Instr.slice 60 (.slice a n p) none (some (.int .i64 (n : Int))) (some (.int .i64 (n : Int)))).run Tryz.prog W = .ok (.slice a n n) W := by
 rw [run_slice_hm (P := Tryz.prog) W 60 a n p elemRn .i64 .i64 (n : Int) (n : Int) (by omega) (by omega) (by omega), sizeRn]
 show Result.ok (sliced a 0 (n : Int).toNat (n : Int).toNat 4) W = _
 unfold sliced
 have e : (if (n : Int).toNat = 0 then a else a.map (·.add (0 * 4))) = a := by
  split
  ·rfl
  ·cases a with
   | none => rfl
   | some ad => show some (ad.add (0 * 4)) = _; rw [Nat.zero_mul, add_zero]
 rw [e, Int.toNat_natCast]
 rfl
theorem dCut_is {n p : Nat} (h : n ≤ p) (w : World) :
 Calls Tryz.prog 104 #[.slice a n p] w fun x w' => x = .returned (.slice a n n) ∧ Below w.heap.size w w' := by
 have HB := Kp.mk (Below.refl w.heap.size w)
 have hr := fun W => run_cut (a := a) h W
 clear h
 go_enter Tryz.func104, Tryz.ntmps104
 go_wp2_with fail
 go_ret
 exact ⟨rfl, HB.out⟩
set_option maxHeartbeats 2000000 in
theorem orE_is {a b v : Int} (hv : (if a = 0 then b else a) = v) (g : Nat) (w : World) (c0 : w.cell? ⟨g, 0, none⟩ = some (.int .i64 a)) (c1 : w.cell? ⟨g, 1, none⟩ = some (.int .i64 b)) :
 Calls Tryz.prog 126 #[.slice (some ⟨g, 0, none⟩) 2 2] w fun e w' => e = .returned (.int .i64 v) ∧ w = w' := by
 have HV := Kp.mk hv
 clear hv
 go_enter Tryz.func126, Tryz.ntmps126
 go_wp2_with fail
 go_loop [8] (fun i => (i = .int .i64 0) ∨ (i = .int .i64 1 ∧ Kp (a = 0)) ∨ (i = .int .i64 2 ∧ Kp (a = 0 ∧ b = 0))) (fun i => (2 - intOf i).toNat)
 case atStart => exact .inl rfl
 case round =>
  rcases hrel with rfl | ⟨rfl, H⟩ | ⟨rfl, H⟩
  ·by_cases h : a = 0
   ·have HK := Kp.mk h
    have t : (a != 0) = false := by rw [h]; rfl
    clear h
    go_wp2_with fail
    go_round
    case rel => exact .inr (.inl ⟨rfl, HK⟩)
    case measure => simp [intOf]
   ·have HK := Kp.mk h
    have t : (a != 0) = true := by rw [bne_iff_ne]; exact h
    clear h
    go_wp2_with fail
    go_ret
    exact ⟨by rw [← HV.out, if_neg HK.out]; rfl, rfl⟩
  ·by_cases h : b = 0
   ·have HK := Kp.mk h
    have t : (b != 0) = false := by rw [h]; rfl
    clear h
    go_wp2_with fail
    go_round
    case rel => exact .inr (.inr ⟨rfl, Kp.mk ⟨H.out, HK.out⟩⟩)
    case measure => simp [intOf]
   ·have HK := Kp.mk h
    have t : (b != 0) = true := by rw [bne_iff_ne]; exact h
    clear h
    go_wp2_with fail
    go_ret
    exact ⟨by rw [← HV.out, if_pos H.out]; rfl, rfl⟩
  ·go_wp2_with fail
   go_ret
   exact ⟨by rw [← HV.out, if_pos H.out.1, H.out.2]; rfl, rfl⟩
set_option maxHeartbeats 4000000 in
theorem dBoth_is {c : Int} {p q : Nat} (hin : ∀ r, r ∈ l → r.In) (him : ∀ r, r ∈ m → r.In) (hc : bothRs l m = c) (hn : l.length ≤ maxLen) (hm : m.length ≤ maxLen) (hl : Lr w a l w) (hml : Lr w b m w) (hL : LaidEn w) :
 Calls Tryz.prog 116 #[.slice a l.length p, .slice b m.length q] w fun x w' => x = .returned (.int .i64 c) ∧ Below w.heap.size w w' := by
 have HB := Kp.mk (Bl.mk (Below.refl w.heap.size w))
 obtain ⟨x, hx⟩ : ∃ x, chkRs l = x := ⟨_, rfl⟩
 obtain ⟨y, hy⟩ : ∃ y, chkRs m = y := ⟨_, rfl⟩
 have r1 := Kp.mk (fun (u : World) (h : Below w.heap.size w u) => dChkS_is (cap := p) hin hx hn (hl.step h).now (hL.below h))
 have r2 := Kp.mk (fun (u : World) (h : Below w.heap.size w u) => dChkS_is (cap := q) him hy hm (hml.step h).now (hL.below h))
 have r3 := Kp.mk (fun g w c0 c1 => orE_is (a := x) (b := y) (v := c) (by rw [← hc]; unfold bothRs; rw [hx, hy]) g w c0 c1)
 clear hin him hc hn hm hl hml hL hx hy
 generalize l.length = n at *
 generalize m.length = k at *
 go_enter Tryz.func116, Tryz.ntmps116
 go_wp2_with fail
 refine (r1.out _ HB.out.below).mono ?_
 rintro e v1 ⟨rfl, hb⟩
 have HB := Kp.mk (HB.out.step hb)
 clear hb
 go_wp2_with fail
 refine (r2.out _ HB.out.below).mono ?_
 rintro e v2 ⟨rfl, hb⟩
 have HB := Kp.mk (HB.out.step hb)
 clear hb
 have HX := Kp.mk (ob_new 180 #[.int .i64 x, .int .i64 y] HB.out.below)
 have HX2 := HX.out.below
 go_wp2_with fail
 refine (r3.out v2.heap.size _ (by simp) (by simp)).mono ?_
 rintro e v3 ⟨rfl, rfl⟩
 go_wp2_with fail
 go_ret
 exact ⟨rfl, HB.out.below.alloc HB.out.below.size _⟩
set_option maxHeartbeats 4000000 in
theorem dMin_bad {cap n : Nat} {c : Int} (h0 : ¬ c = 0) (hI : ∀ u, Below w.heap.size w u → Calls Tryz.prog 124 #[.slice a n cap] u fun x w' => x = .returned (.int .i64 c) ∧ Below u.heap.size u w') :
 Calls Tryz.prog 64 #[.slice a n cap] w fun x w' => x = .returned (.tuple #[.agg #[.int .i8 0, .int .i64 0], .int .i64 c]) ∧ Below w.heap.size w w' := by
 have HR := Kp.mk (ob_new (w := w) 24 #[.int .i8 0, .int .i64 0] (Below.refl w.heap.size w))
 have HB := Kp.mk (Bl.mk HR.out.below)
 have r1 := Kp.mk hI
 clear hI
 have t1 : (c != 0) = true := by rw [bne_iff_ne]; exact h0
 clear h0
 go_enter Tryz.func64, Tryz.ntmps64
 go_upto_region 1 with fail
 generalize w.alloc (.cells #[.int .i8 0, .int .i64 0] 24) = w0 at *
 go_wp2_with fail
 refine (r1.out _ HB.out.below).mono ?_
 rintro e v1 ⟨rfl, hb⟩
 have HB := Kp.mk (HB.out.step hb)
 have HR := Kp.mk (HR.out.step hb)
 clear hb r1
 go_wp2_with (first
  | refine wpList_store_row' rfl 24 (.tmp 2) (.tmp 9) rfl (w.heap.size) #[.int .i8 0, .int .i64 0] rfl rfl 24 #[.int .i8 0, .int .i64 0] HR.out.heap infoEnd rfl (two_one _ _) ?_)
 refine bodyPost_ret (results_cell_tmp (p := 2) (ty := 24) rfl _ _ (w.heap.size) 24 #[.int .i8 0, .int .i64 0] (0, 0) _ rfl (setRow_heap _ _ _ _ _ _ HR.out.heap) Tryz.underlying24 rfl infoEnd) rfl ?_
 exact ⟨rfl, below_setRow HR.out.below HR.out.base _⟩
set_option maxHeartbeats 4000000 in
theorem dMin_ok {cap n : Nat} {r : Rn} (hln : l.length = n) (hn : n ≤ 9223372036854775807) (hl : Lr w a l w) (hr : l[0]? = some r) (hI : ∀ u, Below w.heap.size w u → Calls Tryz.prog 124 #[.slice a n cap] u fun x w' => x = .returned (.int .i64 0) ∧ Below u.heap.size u w') :
 Calls Tryz.prog 64 #[.slice a n cap] w fun x w' => x = .returned (.tuple #[.agg #[.int .i8 r.f, .int .i64 r.d], .int .i64 0]) ∧ Below w.heap.size w w' := by
 have HR := Kp.mk (ob_new (w := w) 24 #[.int .i8 0, .int .i64 0] (Below.refl w.heap.size w))
 have HB := Kp.mk (Bl.mk HR.out.below)
 have r1 := Kp.mk hI
 clear hI
 have HL := Kp.mk hl
 have hlt := (List.getElem?_eq_some_iff.1 hr).1
 have b1 : (0 : Int) < (n : Int) := by omega
 have b2 : ((n - 1 : Nat) : Int) < (n : Int) := by omega
 have b3 : 0 < n := by omega
 have wp1 : IntKind.i64.wrap ((n : Int) - 1) = ((n - 1 : Nat) : Int) := by rw [IntWalk.i64_in _ (by omega)]; omega
 obtain ⟨g, s, rfl⟩ := hl.place hr
 have HL0 := Kp.mk (hl.step HB.out.below)
 clear hl hlt
 go_enter Tryz.func64, Tryz.ntmps64
 go_upto_region 1 with fail
 generalize w.alloc (.cells #[.int .i8 0, .int .i64 0] 24) = w0 at *
 go_wp2_with fail
 refine (r1.out _ HB.out.below).mono ?_
 rintro e v1 ⟨rfl, hb⟩
 have HB := Kp.mk (HB.out.step hb)
 have HR := Kp.mk (HR.out.step hb)
 have HL1 := Kp.mk (HL0.out.step hb)
 obtain ⟨k0, k1, _, _⟩ := HL1.out.cells hr
 simp only [Nat.zero_mul, Nat.add_zero] at k0 k1
 clear hb r1
 go_wp2_with (first
  | refine wpList_store_row' rfl 24 (.tmp 2) (.tmp 14) rfl (w.heap.size) #[.int .i8 r.f, .int .i64 r.d] rfl rfl 24 #[.int .i8 0, .int .i64 0] HR.out.heap infoEnd rfl (two_one _ _) ?_)
 refine bodyPost_ret (results_cell_tmp (p := 2) (ty := 24) rfl _ _ (w.heap.size) 24 #[.int .i8 r.f, .int .i64 r.d] (0, 0) _ rfl (setRow_heap _ _ _ _ _ _ HR.out.heap) Tryz.underlying24 rfl infoEnd) rfl ?_
 exact ⟨rfl, below_setRow HR.out.below HR.out.base _⟩
set_option maxHeartbeats 4000000 in
theorem dMax_bad {cap n : Nat} {c : Int} (h0 : ¬ c = 0) (hI : ∀ u, Below w.heap.size w u → Calls Tryz.prog 124 #[.slice a n cap] u fun x w' => x = .returned (.int .i64 c) ∧ Below u.heap.size u w') :
 Calls Tryz.prog 65 #[.slice a n cap] w fun x w' => x = .returned (.tuple #[.agg #[.int .i8 0, .int .i64 0], .int .i64 c]) ∧ Below w.heap.size w w' := by
 have HR := Kp.mk (ob_new (w := w) 24 #[.int .i8 0, .int .i64 0] (Below.refl w.heap.size w))
 have HB := Kp.mk (Bl.mk HR.out.below)
 have r1 := Kp.mk hI
 clear hI
 have t1 : (c != 0) = true := by rw [bne_iff_ne]; exact h0
 clear h0
 go_enter Tryz.func65, Tryz.ntmps65
 go_upto_region 1 with fail
 generalize w.alloc (.cells #[.int .i8 0, .int .i64 0] 24) = w0 at *
 go_wp2_with fail
 refine (r1.out _ HB.out.below).mono ?_
 rintro e v1 ⟨rfl, hb⟩
 have HB := Kp.mk (HB.out.step hb)
 have HR := Kp.mk (HR.out.step hb)
 clear hb r1
 go_wp2_with (first
  | refine wpList_store_row' rfl 24 (.tmp 2) (.tmp 9) rfl (w.heap.size) #[.int .i8 0, .int .i64 0] rfl rfl 24 #[.int .i8 0, .int .i64 0] HR.out.heap infoEnd rfl (two_one _ _) ?_)
 refine bodyPost_ret (results_cell_tmp (p := 2) (ty := 24) rfl _ _ (w.heap.size) 24 #[.int .i8 0, .int .i64 0] (0, 0) _ rfl (setRow_heap _ _ _ _ _ _ HR.out.heap) Tryz.underlying24 rfl infoEnd) rfl ?_
 exact ⟨rfl, below_setRow HR.out.below HR.out.base _⟩
set_option maxHeartbeats 4000000 in
theorem dMax_ok {cap n : Nat} {r : Rn} (hln : l.length = n) (hn : n ≤ 9223372036854775807) (hl : Lr w a l w) (hr : l[n - 1]? = some r) (hI : ∀ u, Below w.heap.size w u → Calls Tryz.prog 124 #[.slice a n cap] u fun x w' => x = .returned (.int .i64 0) ∧ Below u.heap.size u w') :
 Calls Tryz.prog 65 #[.slice a n cap] w fun x w' => x = .returned (.tuple #[.agg #[.int .i8 r.g, .int .i64 r.e], .int .i64 0]) ∧ Below w.heap.size w w' := by
 have HR := Kp.mk (ob_new (w := w) 24 #[.int .i8 0, .int .i64 0] (Below.refl w.heap.size w))
 have HB := Kp.mk (Bl.mk HR.out.below)
 have r1 := Kp.mk hI
 clear hI
 have HL := Kp.mk hl
 have hlt := (List.getElem?_eq_some_iff.1 hr).1
 have b1 : (0 : Int) < (n : Int) := by omega
 have b2 : ((n - 1 : Nat) : Int) < (n : Int) := by omega
 have b3 : 0 < n := by omega
 have wp1 : IntKind.i64.wrap ((n : Int) - 1) = ((n - 1 : Nat) : Int) := by rw [IntWalk.i64_in _ (by omega)]; omega
 obtain ⟨g, s, rfl⟩ := hl.place hr
 have HL0 := Kp.mk (hl.step HB.out.below)
 clear hl hlt
 go_enter Tryz.func65, Tryz.ntmps65
 go_upto_region 1 with fail
 generalize w.alloc (.cells #[.int .i8 0, .int .i64 0] 24) = w0 at *
 go_wp2_with fail
 refine (r1.out _ HB.out.below).mono ?_
 rintro e v1 ⟨rfl, hb⟩
 have HB := Kp.mk (HB.out.step hb)
 have HR := Kp.mk (HR.out.step hb)
 have HL1 := Kp.mk (HL0.out.step hb)
 obtain ⟨_, _, k0, k1⟩ := HL1.out.cells hr
 clear hb r1
 go_wp2_with (first
  | refine wpList_store_row' rfl 24 (.tmp 2) (.tmp 17) rfl (w.heap.size) #[.int .i8 r.g, .int .i64 r.e] rfl rfl 24 #[.int .i8 0, .int .i64 0] HR.out.heap infoEnd rfl (two_one _ _) ?_)
 refine bodyPost_ret (results_cell_tmp (p := 2) (ty := 24) rfl _ _ (w.heap.size) 24 #[.int .i8 r.g, .int .i64 r.e] (0, 0) _ rfl (setRow_heap _ _ _ _ _ _ HR.out.heap) Tryz.underlying24 rfl infoEnd) rfl ?_
 exact ⟨rfl, below_setRow HR.out.below HR.out.base _⟩
end Go.Proofs.YtndjcmclmhoigaaGreatDoor
