/-
 DERIVED. CONTRACTS of package runs (the developers' functions): Of, Compare, each into texts, Text. Written by mkrnd5.py.
 DERIVED. runs.Compare, with what it leaves behind: old blocks unturned, new ones, draws. (For the library's sort.) Written by mkrsd0.py.
-/
import Derived.Test.YtndjcmclmhoigaaGreatDoorPB9
import Derived.Test.YtndjcmclmhoigaaGreatDoorPA9
import Derived.Test.YtndjcmclmhoigaaGreatDoorPA3
import Derived.Sort.Grow
import Derived.Deep.Draws
namespace Go.Proofs.YtndjcmclmhoigaaGreatDoor
open Go.RowKit
set_option maxRecDepth 100000

theorem infoPs : (Tryz.prog.info? 125).map (·.size) = some 2 := by kernel_rfl
theorem two_str (a b : ByteArray) : (#[Value.string a, .string b] : Array Value).all (·.oneCell') = true := by simp [Value.oneCell']
set_option maxHeartbeats 2000000 in
/-- cmp.Or over two numbers -/
theorem or2_is {a b v : Int} (hv : (if a = 0 then b else a) = v) (g : Nat) (w : World) (c0 : w.cell? ⟨g, 0, none⟩ = some (.int .i64 a)) (c1 : w.cell? ⟨g, 1, none⟩ = some (.int .i64 b)) :
 Calls Tryz.prog 76 #[.slice (some ⟨g, 0, none⟩) 2 2] w fun e w' => e = .returned (.int .i64 v) ∧ w = w' := by
 have HV := Kp.mk hv
 clear hv
 go_enter Tryz.func76, Tryz.ntmps76
 go_wp2_with fail
 go_loop [8] (fun i => (i = .int .i64 0) ∨ (i = .int .i64 1 ∧ Kp (a = 0)) ∨ (i = .int .i64 2 ∧ Kp (a = 0 ∧ b = 0))) (fun i => (2 - intOf i).toNat)
 case atStart => exact .inl rfl
 case round =>
  rcases hrel with rfl | ⟨rfl, H⟩ | ⟨rfl, H⟩
  ·by_cases h : a = 0
   ·have HK := Kp.mk h
    have t : (a != 0) = false := by rw [h]; rfl
    clear h
    go_wp2_with fail
    go_round
    case rel => exact .inr (.inl ⟨rfl, HK⟩)
    case measure => simp [intOf]
   ·have HK := Kp.mk h
    have t : (a != 0) = true := by rw [bne_iff_ne]; exact h
    clear h
    go_wp2_with fail
    go_ret
    exact ⟨by rw [← HV.out, if_neg HK.out]; rfl, rfl⟩
  ·by_cases h : b = 0
   ·have HK := Kp.mk h
    have t : (b != 0) = false := by rw [h]; rfl
    clear h
    go_wp2_with fail
    go_round
    case rel => exact .inr (.inr ⟨rfl, Kp.mk ⟨H.out, HK.out⟩⟩)
    case measure => simp [intOf]
   ·have HK := Kp.mk h
    have t : (b != 0) = true := by rw [bne_iff_ne]; exact h
    clear h
    go_wp2_with fail
    go_ret
    exact ⟨by rw [← HV.out, if_pos H.out]; rfl, rfl⟩
  ·go_wp2_with fail
   go_ret
   exact ⟨by rw [← HV.out, if_pos H.out.1, H.out.2]; rfl, rfl⟩
set_option maxHeartbeats 8000000 in
theorem eachT_ok {r : Rn} {s0 s1 : ByteArray} (w : World) (H1 : ∀ u, Below w.heap.size w u → Calls Tryz.prog 98 #[.agg #[.int .i8 r.f, .int .i64 r.d]] u fun e w' => e = .returned (.tuple #[.string s0, .int .i64 0]) ∧ Below u.heap.size u w') (H2 : ∀ u, Below w.heap.size w u → Calls Tryz.prog 98 #[.agg #[.int .i8 r.g, .int .i64 r.e]] u fun e w' => e = .returned (.tuple #[.string s1, .int .i64 0]) ∧ Below u.heap.size u w') :
 Calls Tryz.prog 97 #[.agg #[.int .i8 r.f, .int .i64 r.d, .int .i8 r.g, .int .i64 r.e], .func (.func 98) #[] #[]] w fun z w' => z = .returned (.tuple #[.agg #[.string s0, .string s1], .int .i64 0]) ∧ Below w.heap.size w w' := by
 obtain ⟨h1, h2⟩ := ob_two w #[.int .i8 r.f, .int .i64 r.d, .int .i8 r.g, .int .i64 r.e] #[.string ⟨#[]⟩, .string ⟨#[]⟩] 106 125
 have HA := Kp.mk h1.rg
 have HR := Kp.mk h2
 have HB := Kp.mk (Bl.mk h1.below)
 clear h1 h2
 have r1 := Kp.mk H1
 have r2 := Kp.mk H2
 clear H1 H2
 go_enter Tryz.func97, Tryz.ntmps97
 go_upto_region 1 with fail
 generalize (w.alloc (.cells #[.int .i8 r.f, .int .i64 r.d, .int .i8 r.g, .int .i64 r.e] 106)).alloc (.cells #[.string ⟨#[]⟩, .string ⟨#[]⟩] 125) = w0 at *
 have kHA0 := HA.out.c0
 have kHA1 := HA.out.c1
 have kHA2 := HA.out.c2
 have kHA3 := HA.out.c3
 go_wp2_with fail
 refine (r1.out _ HB.out.below).mono ?_
 rintro e u1 ⟨rfl, hbl⟩
 clear kHA0 kHA1 kHA2 kHA3
 have HB := Kp.mk (HB.out.step hbl)
 have HA := Kp.mk (HA.out.step hbl)
 have HR := Kp.mk (HR.out.step hbl)
 clear hbl
 have kHA0 := HA.out.c0
 have kHA1 := HA.out.c1
 have kHA2 := HA.out.c2
 have kHA3 := HA.out.c3
 go_wp2_with fail
 refine (r2.out _ HB.out.below).mono ?_
 rintro e u2 ⟨rfl, hbl⟩
 clear kHA0 kHA1 kHA2 kHA3
 have HB := Kp.mk (HB.out.step hbl)
 have HA := Kp.mk (HA.out.step hbl)
 have HR := Kp.mk (HR.out.step hbl)
 clear hbl
 have kHA0 := HA.out.c0
 have kHA1 := HA.out.c1
 have kHA2 := HA.out.c2
 have kHA3 := HA.out.c3
 go_wp2_with (first
  | refine wpList_store_row' rfl 125 (.tmp 4) (.tmp 37) rfl (w.heap.size + 1) #[.string s0, .string s1] rfl rfl 125 #[.string ⟨#[]⟩, .string ⟨#[]⟩] HR.out.heap infoPs rfl (two_str _ _) ?_)
 refine bodyPost_ret (results_cell_tmp (p := 4) (ty := 125) rfl _ _ (w.heap.size + 1) 125 #[.string s0, .string s1] (0, 0) _ rfl (setRow_heap _ _ _ _ _ _ HR.out.heap) Tryz.underlying125 rfl infoPs) rfl ?_
 exact ⟨rfl, below_setRow HR.out.below HR.out.base _⟩
/-- two texts in a block -/
structure Sc (w : World) (k : Nat) (s0 s1 : ByteArray) (W : World) : Prop where
 below : Below w.heap.size w W
 size : k < W.heap.size
 c0 : W.cell? ⟨k, 0, none⟩ = some (.string s0)
 c1 : W.cell? ⟨k, 1, none⟩ = some (.string s1)
theorem Sc.step {w W W' : World} {k : Nat} {s0 s1 : ByteArray} (h : Sc w k s0 s1 W) (hb : Below W.heap.size W W') : Sc w k s0 s1 W' :=
 ⟨h.below.trans (hb.mono h.below.size), by have := hb.size; have := h.size; omega, by rw [hb.cell (p := ⟨k, 0, none⟩) h.size]; exact h.c0, by rw [hb.cell (p := ⟨k, 1, none⟩) h.size]; exact h.c1⟩
theorem sb_new {w W : World} (s0 s1 : ByteArray) (t : TypeId) (hb : Below w.heap.size w W) : Sc w W.heap.size s0 s1 (W.alloc (.cells #[.string s0, .string s1] t)) := by
 have h := ob_new t #[.string s0, .string s1] hb
 exact ⟨h.below, h.lt, h.cell rfl, h.cell rfl⟩
set_option maxHeartbeats 8000000 in
theorem dTextR_ok {r : Rn} (hr : r.In) (hc : chkR r = 0) (w : World) (hL : LaidEn w) :
 Calls Tryz.prog 38 #[.agg #[.int .i8 r.f, .int .i64 r.d, .int .i8 r.g, .int .i64 r.e]] w fun z w' => z = .returned (.tuple #[.string (bs (textR r)), .int .i64 0]) ∧ Below w.heap.size w w' := by
 have HA := Kp.mk (rg_new r 26 (Below.refl w.heap.size w))
 have HB := Kp.mk (bl_of HA.out)
 have r1 : Kp (∀ u, Below w.heap.size w u → Calls Tryz.prog 15 #[.agg #[.int .i8 r.f, .int .i64 r.d, .int .i8 r.g, .int .i64 r.e]] u fun e w' => e = .returned (.int .i64 0) ∧ Below u.heap.size u w') := Kp.mk (fun u hw => dRChk_is hr hc u (hL.below hw))
 have r2 : Kp (∀ u, Below w.heap.size w u → Calls Tryz.prog 87 #[.agg #[.int .i8 r.f, .int .i64 r.d, .int .i8 r.g, .int .i64 r.e]] u fun e w' => e = .returned (.agg #[.int .i8 r.f, .int .i64 r.d, .int .i8 r.g, .int .i64 r.e]) ∧ Below u.heap.size u w') := Kp.mk (fun u _ => dEnds_is r u)
 have hk := (chkR_zero hr).1 hc
 have q1 : chkE r.f r.d = 0 := by rw [chkE_zero]; have := hk.lof; omega
 have q2 : chkE r.g r.e = 0 := by rw [chkE_zero]; have := hk.hif; omega
 have l1 := textE_len (f := r.f) hr.d0 hr.d1
 have l2 := textE_len (f := r.g) hr.e0 hr.e1
 have HT := Kp.mk (show textE r.f r.d ++ [46, 46] ++ textE r.g r.e = textR r from rfl)
 have c1 : ∀ u, Below w.heap.size w u → ∀ v, Below u.heap.size u v → Calls Tryz.prog 98 #[.agg #[.int .i8 r.f, .int .i64 r.d]] v fun e w' => e = .returned (.tuple #[.string (bs (textE r.f r.d)), .int .i64 0]) ∧ Below v.heap.size v w' := fun u hw v hv => endCoreN.text_in v (hL.below (hw.trans (hv.mono hw.size))) hr.d0 hr.d1 q1
 have c2 : ∀ u, Below w.heap.size w u → ∀ v, Below u.heap.size u v → Calls Tryz.prog 98 #[.agg #[.int .i8 r.g, .int .i64 r.e]] v fun e w' => e = .returned (.tuple #[.string (bs (textE r.g r.e)), .int .i64 0]) ∧ Below v.heap.size v w' := fun u hw v hv => endCoreN.text_in v (hL.below (hw.trans (hv.mono hw.size))) hr.e0 hr.e1 q2
 generalize textE r.f r.d = a at *
 generalize textE r.g r.e = b at *
 have r3 := Kp.mk (fun u hw => eachT_ok (r := r) (s0 := bs a) (s1 := bs b) u (c1 u hw) (c2 u hw))
 have a1 : ∀ W, (Op.stringOp .add (bs a) ⟨#[46, 46]⟩).run Tryz.prog W = .ok (.string (bs (a ++ [46, 46]))) W := fun W => add_bs (b := [46, 46]) (by simp; omega) W
 have a2 : ∀ W, (Op.stringOp .add (bs (a ++ [46, 46])) (bs b)).run Tryz.prog W = .ok (.string (bs (a ++ [46, 46] ++ b))) W := fun W => add_bs (by simp; omega) W
 clear hr hc hL hk q1 q2 l1 l2 c1 c2
 go_enter Tryz.func38, Tryz.ntmps38
 go_upto_region 1 with fail
 generalize w.alloc (.cells #[.int .i8 r.f, .int .i64 r.d, .int .i8 r.g, .int .i64 r.e] 26) = w0 at *
 have kHA0 := HA.out.c0
 have kHA1 := HA.out.c1
 have kHA2 := HA.out.c2
 have kHA3 := HA.out.c3
 go_wp2_with fail
 refine (r1.out _ HB.out.below).mono ?_
 rintro e u1 ⟨rfl, hbl⟩
 clear kHA0 kHA1 kHA2 kHA3
 have HB := Kp.mk (HB.out.step hbl)
 have HA := Kp.mk (HA.out.step hbl)
 clear hbl
 have kHA0 := HA.out.c0
 have kHA1 := HA.out.c1
 have kHA2 := HA.out.c2
 have kHA3 := HA.out.c3
 go_wp2_with fail
 refine (r2.out _ HB.out.below).mono ?_
 rintro e u2 ⟨rfl, hbl⟩
 clear kHA0 kHA1 kHA2 kHA3
 have HB := Kp.mk (HB.out.step hbl)
 have HA := Kp.mk (HA.out.step hbl)
 clear hbl
 have kHA0 := HA.out.c0
 have kHA1 := HA.out.c1
 have kHA2 := HA.out.c2
 have kHA3 := HA.out.c3
 go_wp2_with fail
 refine (r3.out _ HB.out.below).mono ?_
 rintro e u3 ⟨rfl, hbl⟩
 clear kHA0 kHA1 kHA2 kHA3
 have HB := Kp.mk (HB.out.step hbl)
 have HA := Kp.mk (HA.out.step hbl)
 clear hbl
 have kHA0 := HA.out.c0
 have kHA1 := HA.out.c1
 have kHA2 := HA.out.c2
 have kHA3 := HA.out.c3
 go_upto_region 5 with fail
 clear kHA0 kHA1 kHA2 kHA3
 have HX := Kp.mk (sb_new (bs a) (bs b) 125 HB.out.below)
 have hbl := (Below.refl u3.heap.size u3).alloc (Nat.le_refl _) (.cells #[.string (bs a), .string (bs b)] 125)
 have HB := Kp.mk (HB.out.step hbl)
 have HA := Kp.mk (HA.out.step hbl)
 clear hbl
 generalize u3.alloc (.cells #[.string (bs a), .string (bs b)] 125) = u4 at *
 generalize u3.heap.size = gx at *
 have kHA0 := HA.out.c0
 have kHA1 := HA.out.c1
 have kHA2 := HA.out.c2
 have kHA3 := HA.out.c3
 have kHX0 := HX.out.c0
 have kHX1 := HX.out.c1
 go_wp2_with fail
 go_ret2
 exact ⟨by rw [← HT.out]; simp, HB.out.below⟩
end Go.Proofs.YtndjcmclmhoigaaGreatDoor
namespace Go.Proofs.YtndjcmclmhoigaaGreatDoor
open Go.RowKit
set_option maxRecDepth 100000

/-- nothing old has turned, and draws go on -/
structure Gr (w w' : World) : Prop where
 below : Below w.heap.size w w'
 drawn : w.drawn ≤ w'.drawn
variable {w w' u : World}
theorem Gr.trans {a b c : World} (h : Gr a b) (k : Gr b c) : Gr a c := ⟨h.below.trans (k.below.mono h.below.size), Nat.le_trans h.drawn k.drawn⟩
theorem Gr.alloc (w : World) (o : Obj) : Gr w (w.alloc o) := ⟨(Below.refl _ w).alloc (Nat.le_refl _) o, Nat.le_refl _⟩
theorem Gr.drew (w : World) : Gr w w.drew := ⟨(Below.refl _ w).drew, Nat.le_succ _⟩
theorem Gr.grow (h : Gr w w') : ∃ q os, w' = Go.Sort.grow (w.drewN q) os := by
 obtain ⟨⟨h1, h2, h3, h4, h5⟩, h6⟩ := h
 refine ⟨w'.drawn - w.drawn, w'.heap.extract w.heap.size w'.heap.size, ?_⟩
 cases w with
 | mk hp tp dr so ou =>
  cases w' with
  | mk hp' tp' dr' so' ou' =>
   simp only at h1 h2 h3 h4 h5 h6
   subst h1 h2 h3
   unfold Go.Sort.grow World.drewN
   simp only [World.mk.injEq, true_and, and_true]
   refine ⟨?_, by omega⟩
   apply Array.ext_getElem?
   intro k
   rw [Array.getElem?_append]
   by_cases hk : k < hp.size
   ·rw [if_pos hk]; exact h5 k hk
   ·rw [if_neg hk, Array.getElem?_extract]
    by_cases hk2 : k < hp'.size
    ·rw [if_pos (by omega), show hp.size + (k - hp.size) = k by omega]
    ·rw [if_neg (by omega), Array.getElem?_eq_none (by omega)]
set_option maxHeartbeats 1000000 in
theorem dCmp_g {f d g e v : Int} (hv : cmpE f d g e = v) (w : World) :
 Calls Tryz.prog 75 #[.agg #[.int .i8 f, .int .i64 d], .agg #[.int .i8 g, .int .i64 e]] w fun x w' => x = .returned (.int .i64 v) ∧ w' = (w.alloc (.cells #[.int .i8 f, .int .i64 d] 24)).alloc (.cells #[.int .i8 g, .int .i64 e] 24) := by
 have HA := Kp.mk (eb_two w f d g e).1
 have HC := Kp.mk (eb_two w f d g e).2
 unfold cmpE at hv
 rcases cmpI_cases f g with ⟨h, h1⟩ | ⟨h, h1⟩ | ⟨h, h1⟩
 ·rw [h1, if_neg (by decide)] at hv
  subst hv
  have t1 : (f == g) = false := by rw [beq_eq_false_iff_ne]; omega
  clear h1
  go_enter Tryz.func75, Tryz.ntmps75
  go_upto_region 1 with fail
  generalize hw : (w.alloc (.cells #[.int .i8 f, .int .i64 d] 24)).alloc (.cells #[.int .i8 g, .int .i64 e] 24) = w0 at *
  have HW := Kp.mk hw
  clear hw
  have k0 := HA.out.c0
  have k1 := HA.out.c1
  have k2 := HC.out.c0
  have k3 := HC.out.c1
  go_wp2_with fail
  go_ret
  exact ⟨rfl, HW.out.symm⟩
 ·rw [h1, if_pos rfl] at hv
  subst h
  clear h1
  rcases cmpI_cases d e with ⟨h, h1⟩ | ⟨h, h1⟩ | ⟨h, h1⟩
  ·rw [h1] at hv
   subst hv
   have t1 : (d == e) = false := by rw [beq_eq_false_iff_ne]; omega
   clear h1
   go_enter Tryz.func75, Tryz.ntmps75
   go_upto_region 1 with fail
   generalize hw : (w.alloc (.cells #[.int .i8 f, .int .i64 d] 24)).alloc (.cells #[.int .i8 f, .int .i64 e] 24) = w0 at *
   have HW := Kp.mk hw
   clear hw
   have k0 := HA.out.c0
   have k1 := HA.out.c1
   have k2 := HC.out.c0
   have k3 := HC.out.c1
   go_wp2_with fail
   go_ret
   exact ⟨rfl, HW.out.symm⟩
  ·rw [h1] at hv
   subst hv
   subst h
   clear h1
   go_enter Tryz.func75, Tryz.ntmps75
   go_upto_region 1 with fail
   generalize hw : (w.alloc (.cells #[.int .i8 f, .int .i64 d] 24)).alloc (.cells #[.int .i8 f, .int .i64 d] 24) = w0 at *
   have HW := Kp.mk hw
   clear hw
   have k0 := HA.out.c0
   have k1 := HA.out.c1
   have k2 := HC.out.c0
   have k3 := HC.out.c1
   go_wp2_with fail
   go_ret
   exact ⟨rfl, HW.out.symm⟩
  ·rw [h1] at hv
   subst hv
   have t1 : (d == e) = false := by rw [beq_eq_false_iff_ne]; omega
   have t2 : ¬ d < e := by omega
   clear h1
   go_enter Tryz.func75, Tryz.ntmps75
   go_upto_region 1 with fail
   generalize hw : (w.alloc (.cells #[.int .i8 f, .int .i64 d] 24)).alloc (.cells #[.int .i8 f, .int .i64 e] 24) = w0 at *
   have HW := Kp.mk hw
   clear hw
   have k0 := HA.out.c0
   have k1 := HA.out.c1
   have k2 := HC.out.c0
   have k3 := HC.out.c1
   go_wp2_with fail
   go_ret
   exact ⟨rfl, HW.out.symm⟩
 ·rw [h1, if_neg (by decide)] at hv
  subst hv
  have t1 : (f == g) = false := by rw [beq_eq_false_iff_ne]; omega
  have t2 : ¬ f < g := by omega
  clear h1 h
  go_enter Tryz.func75, Tryz.ntmps75
  go_upto_region 1 with fail
  generalize hw : (w.alloc (.cells #[.int .i8 f, .int .i64 d] 24)).alloc (.cells #[.int .i8 g, .int .i64 e] 24) = w0 at *
  have HW := Kp.mk hw
  clear hw
  have k0 := HA.out.c0
  have k1 := HA.out.c1
  have k2 := HC.out.c0
  have k3 := HC.out.c1
  go_wp2_with fail
  go_ret
  exact ⟨rfl, HW.out.symm⟩
set_option maxHeartbeats 8000000 in
theorem dCmpR_g {a b : Rn} {v : Int} (hv : cmpR a b = v) (w : World) :
 Calls Tryz.prog 16 #[.agg #[.int .i8 a.f, .int .i64 a.d, .int .i8 a.g, .int .i64 a.e], .agg #[.int .i8 b.f, .int .i64 b.d, .int .i8 b.g, .int .i64 b.e]] w fun z w' => z = .returned (.int .i64 v) ∧ Gr w w' := by
 have HA := Kp.mk (rg_two w a b).1
 have HC := Kp.mk (rg_two w a b).2
 have HB := Kp.mk (bl_of HA.out)
 have HG := Kp.mk ((Gr.alloc w (.cells #[.int .i8 a.f, .int .i64 a.d, .int .i8 a.g, .int .i64 a.e] 26)).trans (Gr.alloc _ (.cells #[.int .i8 b.f, .int .i64 b.d, .int .i8 b.g, .int .i64 b.e] 26)))
 obtain ⟨p, hp⟩ : ∃ p, cmpE a.f a.d b.f b.d = p := ⟨_, rfl⟩
 obtain ⟨q, hq⟩ : ∃ q, cmpE a.g a.e b.g b.e = q := ⟨_, rfl⟩
 have ho : (if p = 0 then q else p) = v := by rw [← hv, ← hp, ← hq]; rfl
 have r1 : Kp (∀ u, Below w.heap.size w u → Calls Tryz.prog 75 #[.agg #[.int .i8 a.f, .int .i64 a.d], .agg #[.int .i8 b.f, .int .i64 b.d]] u fun e w' => e = .returned (.int .i64 p) ∧ Gr u w') := Kp.mk (fun u _ => (dCmp_g hp u).mono fun _ _ h => ⟨h.1, h.2 ▸ (Gr.alloc u _).trans (Gr.alloc _ _)⟩)
 have r2 : Kp (∀ u, Below w.heap.size w u → Calls Tryz.prog 75 #[.agg #[.int .i8 a.g, .int .i64 a.e], .agg #[.int .i8 b.g, .int .i64 b.e]] u fun e w' => e = .returned (.int .i64 q) ∧ Gr u w') := Kp.mk (fun u _ => (dCmp_g hq u).mono fun _ _ h => ⟨h.1, h.2 ▸ (Gr.alloc u _).trans (Gr.alloc _ _)⟩)
 have r3 := Kp.mk (fun g w c0 c1 => or2_is ho g w c0 c1)
 clear hp hq ho hv
 go_enter Tryz.func16, Tryz.ntmps16
 go_upto_region 1 with fail
 generalize ((w.alloc (.cells #[.int .i8 a.f, .int .i64 a.d, .int .i8 a.g, .int .i64 a.e] 26)).alloc (.cells #[.int .i8 b.f, .int .i64 b.d, .int .i8 b.g, .int .i64 b.e] 26)) = w0 at *
 have kHA0 := HA.out.c0
 have kHA1 := HA.out.c1
 have kHA2 := HA.out.c2
 have kHA3 := HA.out.c3
 have kHC0 := HC.out.c0
 have kHC1 := HC.out.c1
 have kHC2 := HC.out.c2
 have kHC3 := HC.out.c3
 clear kHA0 kHA1 kHA2 kHA3 kHC0 kHC1 kHC2 kHC3
 have hd := (Below.refl w0.heap.size w0).drew
 have HG := Kp.mk (HG.out.trans (Gr.drew w0))
 have HB := Kp.mk (HB.out.step hd)
 have HA := Kp.mk (HA.out.step hd)
 have HC := Kp.mk (HC.out.step hd)
 clear hd
 refine wp_region_held_drew (S := fun w' => w'.cell? ⟨w.heap.size, 0, none⟩ = some (.int .i8 a.f) ∧ w'.cell? ⟨w.heap.size, 1, none⟩ = some (.int .i64 a.d) ∧ w'.cell? ⟨w.heap.size, 2, none⟩ = some (.int .i8 a.g) ∧ w'.cell? ⟨w.heap.size, 3, none⟩ = some (.int .i64 a.e) ∧ w'.cell? ⟨w.heap.size + 1, 0, none⟩ = some (.int .i8 b.f) ∧ w'.cell? ⟨w.heap.size + 1, 1, none⟩ = some (.int .i64 b.d) ∧ w'.cell? ⟨w.heap.size + 1, 2, none⟩ = some (.int .i8 b.g) ∧ w'.cell? ⟨w.heap.size + 1, 3, none⟩ = some (.int .i64 b.e)) (by kernel_rfl) ?_ (fun hHeld => ?_)
 ·exact ⟨HA.out.c0, HA.out.c1, HA.out.c2, HA.out.c3, HC.out.c0, HC.out.c1, HC.out.c2, HC.out.c3⟩
 generalize w0.drew = vz at *
 refine tk 0 ?_ rfl hHeld ?_ ?_
 rotate_left
 ·(intro w hSw; (try dsimp only at hSw); go_simp; try with_reducible rfl)
 try simp only [pt]
 refine tk 1 ?_ rfl hHeld ?_ ?_
 rotate_left
 ·(intro w hSw; (try dsimp only at hSw); go_simp; try with_reducible rfl)
 try simp only [pt]
 refine tk 2 ?_ rfl hHeld ?_ ?_
 rotate_left
 ·(intro w hSw; (try dsimp only at hSw); go_simp; try with_reducible rfl)
 try simp only [pt]
 refine tk 3 ?_ rfl hHeld ?_ ?_
 rotate_left
 ·(intro w hSw; (try dsimp only at hSw); go_simp; try with_reducible rfl)
 try simp only [pt]
 refine tk 5 ?_ rfl hHeld ?_ ?_
 rotate_left
 ·(intro w hSw; (try dsimp only at hSw); go_simp; try with_reducible rfl)
 try simp only [pt]
 refine tk 6 ?_ rfl hHeld ?_ ?_
 rotate_left
 ·(intro w hSw; (try dsimp only at hSw); go_simp; try with_reducible rfl)
 try simp only [pt]
 refine tk 7 ?_ rfl hHeld ?_ ?_
 rotate_left
 ·(intro w hSw; (try dsimp only at hSw); go_simp; try with_reducible rfl)
 try simp only [pt]
 refine tk 8 ?_ rfl hHeld ?_ ?_
 rotate_left
 ·(intro w hSw; (try dsimp only at hSw); go_simp; try with_reducible rfl)
 try simp only [pt]
 refine rd [4] ?_
 refine AllReadyH.cons (dropAt rfl) (fun K hK => ?_) AllReadyH.nil
 clear hHeld
 go_simp
 go_at_call 75
 with_reducible refine (r1.out _ HB.out.below).mono ?_
 rintro e v1 ⟨rfl, hb⟩
 have HG := Kp.mk (HG.out.trans hb)
 have hb := hb.below
 have HB := Kp.mk (HB.out.step hb)
 have HA := Kp.mk (HA.out.step hb)
 have HC := Kp.mk (HC.out.step hb)
 clear hb
 go_wp2_with fail
 refine hK.out _ _ ?_ (fun hHeld => ?_)
 ·exact ⟨HA.out.c0, HA.out.c1, HA.out.c2, HA.out.c3, HC.out.c0, HC.out.c1, HC.out.c2, HC.out.c3⟩
 clear hK K
 try simp only [pt]
 refine rd [9] ?_
 refine AllReadyH.cons (dropAt rfl) (fun K hK => ?_) AllReadyH.nil
 clear hHeld
 go_simp
 go_at_call 75
 with_reducible refine (r2.out _ HB.out.below).mono ?_
 rintro e v2 ⟨rfl, hb⟩
 have HG := Kp.mk (HG.out.trans hb)
 have hb := hb.below
 have HB := Kp.mk (HB.out.step hb)
 have HA := Kp.mk (HA.out.step hb)
 have HC := Kp.mk (HC.out.step hb)
 clear hb
 go_wp2_with fail
 refine hK.out _ _ ?_ (fun hHeld => ?_)
 ·exact ⟨HA.out.c0, HA.out.c1, HA.out.c2, HA.out.c3, HC.out.c0, HC.out.c1, HC.out.c2, HC.out.c3⟩
 clear hK K
 try simp only [pt]
 refine rd [10] ?_
 refine AllReadyH.cons (dropAt rfl) (fun K hK => ?_) AllReadyH.nil
 clear hHeld
 go_simp
 have HG := Kp.mk (HG.out.trans (Gr.alloc v2 (.cells #[.int .i64 p, .int .i64 q] 3)))
 have hbl := (Below.refl v2.heap.size v2).alloc (Nat.le_refl _) (.cells #[.int .i64 p, .int .i64 q] 3)
 have HX := Kp.mk (ob_new 3 #[.int .i64 p, .int .i64 q] HB.out.below)
 have HB := Kp.mk (HB.out.step hbl)
 have HA := Kp.mk (HA.out.step hbl)
 have HC := Kp.mk (HC.out.step hbl)
 clear hbl
 generalize v2.alloc (.cells #[.int .i64 p, .int .i64 q] 3) = v3 at *
 generalize v2.heap.size = gx at *
 refine hK.out _ _ ?_ (fun hHeld => ?_)
 ·exact ⟨HA.out.c0, HA.out.c1, HA.out.c2, HA.out.c3, HC.out.c0, HC.out.c1, HC.out.c2, HC.out.c3⟩
 clear hK K
 try simp only [pt]
 refine rd [11] ?_
 refine AllReadyH.cons (dropAt rfl) (fun K hK => ?_) AllReadyH.nil
 clear hHeld
 go_simp
 go_at_call 76
 with_reducible refine (r3.out gx _ (HX.out.cell rfl) (HX.out.cell rfl)).mono ?_
 rintro e v4 ⟨rfl, rfl⟩
 go_wp2_with fail
 refine hK.out _ _ ?_ (fun hHeld => ?_)
 ·exact ⟨HA.out.c0, HA.out.c1, HA.out.c2, HA.out.c3, HC.out.c0, HC.out.c1, HC.out.c2, HC.out.c3⟩
 clear hK K
 try simp only [pt]
 refine tk 12 ?_ rfl hHeld ?_ ?_
 rotate_left
 ·(intro w hSw; (try dsimp only at hSw); go_simp; try with_reducible rfl)
 try simp only [pt]
 refine wpAnyH_done (by kernel_rfl) ?_ _
 clear hHeld
 go_wp2_with fail
 go_ret
 exact ⟨rfl, HG.out⟩
end Go.Proofs.YtndjcmclmhoigaaGreatDoor
