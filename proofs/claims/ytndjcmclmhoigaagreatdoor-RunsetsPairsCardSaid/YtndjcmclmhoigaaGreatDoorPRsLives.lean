/-
 DERIVED. WALK of the examples of chapter 10, given the contracts of package runsets. Written by mkrs7.py.
-/
import Derived.Test.YtndjcmclmhoigaaGreatDoorPRsVals
import Derived.Test.YtndjcmclmhoigaaGreatDoorPA1
namespace Go.Proofs.YtndjcmclmhoigaaGreatDoor
open Go.RowKit
set_option maxRecDepth 100000

variable {w W W' : World} {g : Nat} {vs : List Value} {S : Int → Prop} {E : List Rn} {a : Option Addr}
def GetS (E : List Rn) (w : World) (x : Ending) (w' : World) : Prop := (∃ b, x = .returned (.tuple #[.slice b E.length E.length, .int .i64 0]) ∧ Lr w b E w') ∧ Below w.heap.size w w'
theorem setOf_get (hE : IsRs E S) {x : Ending} {w' : World} (h : SetOf S w x w') : GetS E w x w' := by
 obtain ⟨⟨m, b, hm, rfl, hl⟩, hb⟩ := h
 obtain rfl := hm.uniq hE
 exact ⟨⟨b, rfl, hl⟩, hb⟩
theorem short_get (hE : IsRs E S) (hn : E.length ≤ 4096) {x : Ending} {w' : World} (h : ShortC S w x w') : GetS E w x w' := by
 obtain ⟨⟨m, hm, _, h⟩, hb⟩ := h
 obtain rfl := hm.uniq hE
 rcases h with ⟨_, b, rfl, hl⟩ | ⟨h, _⟩
 ·exact ⟨⟨b, rfl, hl⟩, hb⟩
 ·omega
theorem lr_non (w : World) : Lr w none [] w := ⟨Below.refl _ _, fun p r hp => by simp at hp⟩
/-- values in a block -/
structure Vs (w : World) (g : Nat) (vs : List Value) (W : World) : Prop where
 below : Below w.heap.size w W
 size : g < W.heap.size
 cell : ∀ i z, vs[i]? = some z → W.cell? ⟨g, i, none⟩ = some z
theorem Vs.step (h : Vs w g vs W) (hb : Below W.heap.size W W') : Vs w g vs W' :=
 ⟨h.below.trans (hb.mono h.below.size), Nat.lt_of_lt_of_le h.size hb.size, fun i z hz => by rw [hb.cell (p := ⟨g, i, none⟩) h.size]; exact h.cell i z hz⟩
theorem vs_new (vs : List Value) (t : TypeId) (hb : Below w.heap.size w W) : Vs w W.heap.size vs (W.alloc (.cells vs.toArray t)) :=
 ⟨hb.alloc hb.size _, by simp, fun i z hz => by rw [World.cell?_alloc_new]; simpa using hz⟩
theorem Zs.now {zs : List Int} (h : Zs w g zs W) : Zs W g zs W := ⟨Below.refl _ _, h.size, h.cell⟩
/-- the block of a literal, then a call -/
theorem lit_below {u : World} {ob : Obj} {y : World} (hb : Below (u.alloc ob).heap.size (u.alloc ob) y) : Below u.heap.size u y :=
 ((Below.refl u.heap.size u).alloc (Nat.le_refl _) ob).trans (hb.mono (by simp))
theorem gives_lit {n q : Nat} {arr : Array Value} {t : TypeId} (hn : E.length ≤ maxLen) (he : E.length = n) (ha : arr = (vL E).toArray) {u : World} (al : Lr u a E u) :
 Calls Tryz.prog 46 #[.slice a E.length E.length, .int .i64 0, .slice (some ⟨u.heap.size, 0, none⟩) n q, .int .i64 0] (u.alloc (.cells arr t)) fun e w' => e = .returned (.bool true) ∧ Below u.heap.size u w' := by
 subst he
 exact (gives_set hn (al.step ((Below.refl u.heap.size u).alloc (Nat.le_refl _) (.cells arr t))).now (two_lit E arr t u ha).now).mono fun _ _ q => ⟨q.1, lit_below q.2⟩
theorem cpl_lit {I : World → Prop} (C : SetCore I) {n p : Nat} {arr : Array Value} {t : TypeId} {u : World} (hI : I (u.alloc (.cells arr t))) (ha : arr = (vL xN1).toArray) (hn : xN1.length = n) (hp : n ≤ p) :
 Calls Tryz.prog 60 #[.slice (some ⟨u.heap.size, 0, none⟩) n p] (u.alloc (.cells arr t)) (GetS xE5 u) := by
 subst hn
 refine (C.cpl (l := xN1) _ hI inN1 lnN1 (two_lit xN1 arr t u ha).now vc5 hp).mono fun x w' q => ?_
 obtain ⟨⟨b, hx, hl⟩, hb⟩ := short_get v5 (by decide) q
 exact ⟨⟨b, hx, ⟨lit_below hb, hl.at4⟩⟩, lit_below hb⟩
theorem max_lit {I : World → Prop} (C : SetCore I) {n p : Nat} {arr : Array Value} {t : TypeId} {u : World} (hI : I (u.alloc (.cells arr t))) (ha : arr = (vL xM1).toArray) (hn : xM1.length = n) :
 Calls Tryz.prog 65 #[.slice (some ⟨u.heap.size, 0, none⟩) n p] (u.alloc (.cells arr t)) fun x w' => x = .returned (.tuple #[.agg #[.int .i8 1, .int .i64 0], .int .i64 0]) ∧ Below u.heap.size u w' := by
 subst hn
 exact (C.max (l := xM1) (r := ⟨0, 1, 1, 0⟩) _ hI inM1 lnM1 (two_lit xM1 arr t u ha).now vc9 rfl).mono fun _ _ q => ⟨q.1, lit_below q.2⟩
set_option maxHeartbeats 64000000 in
theorem lives_of {I : World → Prop} (C : SetCore I) (w : World) (hI : I w) :
 Calls Tryz.prog 42 #[] w fun e w' => e = .returned (.bool true) ∧ Below w.heap.size w w' := by
 have HC := Kp.mk C
 have HI := Kp.mk (fun (v : World) (h : Below w.heap.size w v) => C.keep hI h)
 have HB := Kp.mk (Bl.mk (Below.refl w.heap.size w))
 have rset : Kp (∀ (v : World) (g cap : Nat), Zs v g [1, 3, 5, 5] v → Calls Tryz.prog 71 #[.slice (some ⟨g, 0, none⟩) 4 cap] v fun x w' => (∃ b p, x = .returned (.slice b xP1.length p) ∧ Lr v b xP1 w') ∧ Below v.heap.size v w') := Kp.mk (fun v g cap hz => (set_is (n := 2) (zs := [1, 3, 5, 5]) (cap := cap) rfl (by decide) hz).mono fun _ _ ⟨⟨b, p, h1, _, h3⟩, h4⟩ => ⟨⟨b, p, h1, h3⟩, h4⟩)
 have rgs := Kp.mk (fun (v : World) (x y : Option Addr) (q : Nat) (h1 : Lr v x xP1 v) (h2 : Lr v y xP1 v) => gives_set (q := q) lnP1 h1 h2)
 have rgn1 := Kp.mk (fun (v : World) (x y : Option Addr) (i j q : Nat) => gives_no (c := 5) (a := x) (b := y) (by decide) (n := i) (p := j) (q := q) v)
 have rgn2 := Kp.mk (fun (v : World) (x y : Option Addr) (i j q : Nat) => gives_no (c := 5) (a := x) (b := y) (by decide) (n := i) (p := j) (q := q) v)
 have rgn3 := Kp.mk (fun (v : World) (x y : Option Addr) (i j q : Nat) => gives_no (c := 12) (a := x) (b := y) (by decide) (n := i) (p := j) (q := q) v)
 clear C hI
 go_enter Tryz.func42, Tryz.ntmps42
 go_wp2_with fail
 refine (set_lit [5, 9, 1, 2, 3, 3, 8, 12] xA1 8 8 4 _ _ _ rfl rfl rfl rfl (by decide)).mono ?_
 rintro e y1 ⟨⟨bG1, pG1, rfl, hlr, hrm⟩, hb⟩
 have RG1 := Kp.mk hrm
 clear hrm
 have G1 := Kp.mk (hlr.from' HB.out.below)
 clear hlr
 have HB := Kp.mk (HB.out.step hb)
 clear hb
 go_wp2_with fail
 refine ((HC.out.of_ok (l := xA1) _ (HI.out _ HB.out.below) inA1 lnA1 G1.out.now vof).mono fun _ _ q => setOf_get v1 q).mono ?_
 rintro e y2 ⟨⟨bG2, rfl, hlr⟩, hb⟩
 have G2 := Kp.mk (hlr.from' HB.out.below)
 clear hlr
 clear G1
 have HB := Kp.mk (HB.out.step hb)
 clear hb
 go_wp2_with fail
 refine (set_lit [1, 2, 5, 6] xA2 4 4 2 _ _ _ rfl rfl rfl rfl (by decide)).mono ?_
 rintro e y3 ⟨⟨bG3, pG3, rfl, hlr, hrm⟩, hb⟩
 have RG3 := Kp.mk hrm
 clear hrm
 have G3 := Kp.mk (hlr.from' HB.out.below)
 clear hlr
 have HB := Kp.mk (HB.out.step hb)
 have G2 := Kp.mk (G2.out.step hb)
 clear hb
 go_wp2_with fail
 refine (set_lit [3, 3] xA3 2 2 1 _ _ _ rfl rfl rfl rfl (by decide)).mono ?_
 rintro e y4 ⟨⟨bG4, pG4, rfl, hlr, hrm⟩, hb⟩
 have RG4 := Kp.mk hrm
 clear hrm
 have G4 := Kp.mk (hlr.from' HB.out.below)
 clear hlr
 have HB := Kp.mk (HB.out.step hb)
 have G2 := Kp.mk (G2.out.step hb)
 have G3 := Kp.mk (G3.out.step hb)
 clear hb
 go_wp2_with fail
 refine ((HC.out.uni (l := xA2) (m := xA3) _ (HI.out _ HB.out.below) inA2 inA3 lnA2 lnA3 G3.out.now G4.out.now vb2 RG3.out RG4.out).mono fun _ _ q => short_get v2 (by decide) q).mono ?_
 rintro e y5 ⟨⟨bG5, rfl, hlr⟩, hb⟩
 have G5 := Kp.mk (hlr.from' HB.out.below)
 clear hlr
 clear G3 G4
 have HB := Kp.mk (HB.out.step hb)
 have G2 := Kp.mk (G2.out.step hb)
 clear hb
 go_wp2_with fail
 refine (set_lit [1, 9] xA4 2 2 1 _ _ _ rfl rfl rfl rfl (by decide)).mono ?_
 rintro e y6 ⟨⟨bG6, pG6, rfl, hlr, hrm⟩, hb⟩
 have RG6 := Kp.mk hrm
 clear hrm
 have G6 := Kp.mk (hlr.from' HB.out.below)
 clear hlr
 have HB := Kp.mk (HB.out.step hb)
 have G2 := Kp.mk (G2.out.step hb)
 have G5 := Kp.mk (G5.out.step hb)
 clear hb
 go_wp2_with fail
 refine (set_lit [3, 4, 6, 6] xA5 4 4 2 _ _ _ rfl rfl rfl rfl (by decide)).mono ?_
 rintro e y7 ⟨⟨bG7, pG7, rfl, hlr, hrm⟩, hb⟩
 have RG7 := Kp.mk hrm
 clear hrm
 have G7 := Kp.mk (hlr.from' HB.out.below)
 clear hlr
 have HB := Kp.mk (HB.out.step hb)
 have G2 := Kp.mk (G2.out.step hb)
 have G5 := Kp.mk (G5.out.step hb)
 have G6 := Kp.mk (G6.out.step hb)
 clear hb
 go_wp2_with fail
 refine ((HC.out.wo (l := xA4) (m := xA5) _ (HI.out _ HB.out.below) inA4 inA5 lnA4 lnA5 G6.out.now G7.out.now vb3 RG6.out RG7.out).mono fun _ _ q => short_get v3 (by decide) q).mono ?_
 rintro e y8 ⟨⟨bG8, rfl, hlr⟩, hb⟩
 have G8 := Kp.mk (hlr.from' HB.out.below)
 clear hlr
 clear G6 G7
 have HB := Kp.mk (HB.out.step hb)
 have G2 := Kp.mk (G2.out.step hb)
 have G5 := Kp.mk (G5.out.step hb)
 clear hb
 go_wp2_with fail
 refine (set_lit [1, 3, 5, 12] xE1 4 4 2 _ _ _ rfl rfl rfl rfl (by decide)).mono ?_
 rintro e y9 ⟨⟨bG9, pG9, rfl, hlr, hrm⟩, hb⟩
 have RG9 := Kp.mk hrm
 clear hrm
 have G9 := Kp.mk (hlr.from' HB.out.below)
 clear hlr
 have HB := Kp.mk (HB.out.step hb)
 have G2 := Kp.mk (G2.out.step hb)
 have G5 := Kp.mk (G5.out.step hb)
 have G8 := Kp.mk (G8.out.step hb)
 clear hb
 go_wp2_with fail
 refine (gives_set (l := xE1) lnE1 G2.out.now G9.out.now).mono ?_
 rintro e y10 ⟨rfl, hb⟩
 clear G2 G9
 have HB := Kp.mk (HB.out.step hb)
 have G5 := Kp.mk (G5.out.step hb)
 have G8 := Kp.mk (G8.out.step hb)
 clear hb
 go_wp2_with fail
 refine (set_lit [1, 3, 5, 6] xE2 4 4 2 _ _ _ rfl rfl rfl rfl (by decide)).mono ?_
 rintro e y11 ⟨⟨bG10, pG10, rfl, hlr, hrm⟩, hb⟩
 have RG10 := Kp.mk hrm
 clear hrm
 have G10 := Kp.mk (hlr.from' HB.out.below)
 clear hlr
 have HB := Kp.mk (HB.out.step hb)
 have G5 := Kp.mk (G5.out.step hb)
 have G8 := Kp.mk (G8.out.step hb)
 clear hb
 go_wp2_with fail
 refine (gives_set (l := xE2) lnE2 G5.out.now G10.out.now).mono ?_
 rintro e y12 ⟨rfl, hb⟩
 clear G5 G10
 have HB := Kp.mk (HB.out.step hb)
 have G8 := Kp.mk (G8.out.step hb)
 clear hb
 go_wp2_with fail
 refine (set_lit [1, 2, 5, 5, 7, 9] xE3 6 6 3 _ _ _ rfl rfl rfl rfl (by decide)).mono ?_
 rintro e y13 ⟨⟨bG11, pG11, rfl, hlr, hrm⟩, hb⟩
 have RG11 := Kp.mk hrm
 clear hrm
 have G11 := Kp.mk (hlr.from' HB.out.below)
 clear hlr
 have HB := Kp.mk (HB.out.step hb)
 have G8 := Kp.mk (G8.out.step hb)
 clear hb
 go_wp2_with fail
 refine (gives_set (l := xE3) lnE3 G8.out.now G11.out.now).mono ?_
 rintro e y14 ⟨rfl, hb⟩
 clear G8 G11
 have HB := Kp.mk (HB.out.step hb)
 clear hb
 go_wp2_with fail
 refine (set_lit [1, 2, 3, 4] xC1 4 4 2 _ _ _ rfl rfl rfl rfl (by decide)).mono ?_
 rintro e y15 ⟨⟨bG12, pG12, rfl, hlr, hrm⟩, hb⟩
 have RG12 := Kp.mk hrm
 clear hrm
 have G12 := Kp.mk (hlr.from' HB.out.below)
 clear hlr
 have HB := Kp.mk (HB.out.step hb)
 clear hb
 go_wp2_with fail
 refine ((HC.out.check (l := xC1) _ (HI.out _ HB.out.below) inC1 lnC1 G12.out.now vc1)).mono ?_
 rintro e y16 ⟨rfl, hb⟩
 clear G12
 have HB := Kp.mk (HB.out.step hb)
 clear hb
 go_wp2_with fail
 refine (set_lit [5, 6, 1, 2] xC2 4 4 2 _ _ _ rfl rfl rfl rfl (by decide)).mono ?_
 rintro e y17 ⟨⟨bG13, pG13, rfl, hlr, hrm⟩, hb⟩
 have RG13 := Kp.mk hrm
 clear hrm
 have G13 := Kp.mk (hlr.from' HB.out.below)
 clear hlr
 have HB := Kp.mk (HB.out.step hb)
 clear hb
 go_wp2_with fail
 refine ((HC.out.check (l := xC2) _ (HI.out _ HB.out.below) inC2 lnC2 G13.out.now vc2)).mono ?_
 rintro e y18 ⟨rfl, hb⟩
 clear G13
 have HB := Kp.mk (HB.out.step hb)
 clear hb
 go_wp2_with fail
 refine (set_lit [1, 2, 4, 4] xC3 4 4 2 _ _ _ rfl rfl rfl rfl (by decide)).mono ?_
 rintro e y19 ⟨⟨bG14, pG14, rfl, hlr, hrm⟩, hb⟩
 have RG14 := Kp.mk hrm
 clear hrm
 have G14 := Kp.mk (hlr.from' HB.out.below)
 clear hlr
 have HB := Kp.mk (HB.out.step hb)
 clear hb
 go_wp2_with fail
 refine ((HC.out.check (l := xC3) _ (HI.out _ HB.out.below) inC3 lnC3 G14.out.now vc3)).mono ?_
 rintro e y20 ⟨rfl, hb⟩
 clear G14
 have HB := Kp.mk (HB.out.step hb)
 clear hb
 go_upto_region 9 with fail
 have HLo := Kp.mk (vs_new [.int .i8 (-1), .int .i64 0] 24 HB.out.below)
 have HHi := Kp.mk (vs_new [.int .i8 1, .int .i64 0] 24 HLo.out.below)
 have hbl := (Below.refl (y20.alloc (.cells #[.int .i8 (-1), .int .i64 0] 24)).heap.size (y20.alloc (.cells #[.int .i8 (-1), .int .i64 0] 24))).alloc (Nat.le_refl _) (.cells #[.int .i8 1, .int .i64 0] 24)
 have HLo := Kp.mk (HLo.out.step hbl)
 have HB := Kp.mk (Bl.mk HHi.out.below)
 clear hbl
 have hs2 : (y20.alloc (.cells #[.int .i8 (-1), .int .i64 0] 24)).heap.size = y20.heap.size + 1 := by simp
 rw [hs2] at HHi
 clear hs2
 generalize (y20.alloc (.cells #[.int .i8 (-1), .int .i64 0] 24)).alloc (.cells #[.int .i8 1, .int .i64 0] 24) = y21 at *
 generalize hgl : y20.heap.size = gl at *
 clear hgl
 generalize hgh : gl + 1 = gh at *
 clear hgh
 have k2 := HHi.out.cell 0 _ rfl
 have k3 := HHi.out.cell 1 _ rfl
 go_upto_region 10 with fail
 clear k2 k3
 have GLT := Kp.mk ((two_lit xLT (u := y21) (arr := #[.int .i8 0, .int .i64 1, .int .i8 0, .int .i64 5, .int .i8 0, .int .i64 9, .int .i8 1, .int .i64 0]) (t := 26) rfl).from' HB.out.below)
 have hbl := (Below.refl y21.heap.size y21).alloc (Nat.le_refl _) (.cells #[.int .i8 0, .int .i64 1, .int .i8 0, .int .i64 5, .int .i8 0, .int .i64 9, .int .i8 1, .int .i64 0] 26)
 have HB := Kp.mk (HB.out.step hbl)
 have HLo := Kp.mk (HLo.out.step hbl)
 have HHi := Kp.mk (HHi.out.step hbl)
 clear hbl
 generalize y21.alloc (.cells #[.int .i8 0, .int .i64 1, .int .i8 0, .int .i64 5, .int .i8 0, .int .i64 9, .int .i8 1, .int .i64 0] 26) = y22 at *
 generalize y21.heap.size = gt at *
 go_wp2_with fail
 refine (set_lit [4, 10] xA6 2 2 1 _ _ _ rfl rfl rfl rfl (by decide)).mono ?_
 rintro e y23 ⟨⟨bG15, pG15, rfl, hlr, hrm⟩, hb⟩
 have RG15 := Kp.mk hrm
 clear hrm
 have G15 := Kp.mk (hlr.from' HB.out.below)
 clear hlr
 have HB := Kp.mk (HB.out.step hb)
 have HLo := Kp.mk (HLo.out.step hb)
 have HHi := Kp.mk (HHi.out.step hb)
 have GLT := Kp.mk (GLT.out.step hb)
 clear hb
 go_wp2_with fail
 refine ((HC.out.com (l := xLT) (m := xA6) _ (HI.out _ HB.out.below) inLT inA6 lnLT lnA6 GLT.out.now G15.out.now vb4 (by decide) RG15.out).mono fun _ _ q => short_get v4 (by decide) q).mono ?_
 rintro e y24 ⟨⟨bG16, rfl, hlr⟩, hb⟩
 have G16 := Kp.mk (hlr.from' HB.out.below)
 clear hlr
 clear GLT G15
 have HB := Kp.mk (HB.out.step hb)
 have HLo := Kp.mk (HLo.out.step hb)
 have HHi := Kp.mk (HHi.out.step hb)
 clear hb
 have k0 := HLo.out.cell 0 _ rfl
 have k1 := HLo.out.cell 1 _ rfl
 go_wp2_with fail
 refine (cpl_lit HC.out (HI.out _ (HB.out.below.alloc HB.out.below.size _)) rfl rfl (by decide)).mono ?_
 rintro e y25 ⟨⟨bG17, rfl, hlr⟩, hb⟩
 have G17 := Kp.mk (hlr.from' HB.out.below)
 clear hlr
 clear k0 k1
 have HB := Kp.mk (HB.out.step hb)
 have HLo := Kp.mk (HLo.out.step hb)
 have HHi := Kp.mk (HHi.out.step hb)
 have G16 := Kp.mk (G16.out.step hb)
 clear hb
 go_wp2_with fail
 refine ((HC.out.cpl (l := xNO) _ (HI.out _ HB.out.below) inNO lnNO (Kp.mk (lr_non _)).out.now vc6 (Nat.zero_le _)).mono fun _ _ q => short_get v6 (by decide) q).mono ?_
 rintro e y26 ⟨⟨bG18, rfl, hlr⟩, hb⟩
 have G18 := Kp.mk (hlr.from' HB.out.below)
 clear hlr
 have HB := Kp.mk (HB.out.step hb)
 have HLo := Kp.mk (HLo.out.step hb)
 have HHi := Kp.mk (HHi.out.step hb)
 have G16 := Kp.mk (G16.out.step hb)
 have G17 := Kp.mk (G17.out.step hb)
 clear hb
 go_wp2_with fail
 refine (set_lit [0, 9223372036854775807] xA7 2 2 1 _ _ _ rfl rfl rfl rfl (by decide)).mono ?_
 rintro e y27 ⟨⟨bG19, pG19, rfl, hlr, hrm⟩, hb⟩
 have RG19 := Kp.mk hrm
 clear hrm
 have G19 := Kp.mk (hlr.from' HB.out.below)
 clear hlr
 have HB := Kp.mk (HB.out.step hb)
 have HLo := Kp.mk (HLo.out.step hb)
 have HHi := Kp.mk (HHi.out.step hb)
 have G16 := Kp.mk (G16.out.step hb)
 have G17 := Kp.mk (G17.out.step hb)
 have G18 := Kp.mk (G18.out.step hb)
 clear hb
 go_wp2_with fail
 refine ((HC.out.cpl (l := xA7) _ (HI.out _ HB.out.below) inA7 lnA7 G19.out.now vc7 RG19.out).mono fun _ _ q => short_get v7 (by decide) q).mono ?_
 rintro e y28 ⟨⟨bG20, rfl, hlr⟩, hb⟩
 have G20 := Kp.mk (hlr.from' HB.out.below)
 clear hlr
 clear G19
 have HB := Kp.mk (HB.out.step hb)
 have HLo := Kp.mk (HLo.out.step hb)
 have HHi := Kp.mk (HHi.out.step hb)
 have G16 := Kp.mk (G16.out.step hb)
 have G17 := Kp.mk (G17.out.step hb)
 have G18 := Kp.mk (G18.out.step hb)
 clear hb
 go_wp2_with fail
 refine (set_lit [4, 5, 9, 10] xE4 4 4 2 _ _ _ rfl rfl rfl rfl (by decide)).mono ?_
 rintro e y29 ⟨⟨bG21, pG21, rfl, hlr, hrm⟩, hb⟩
 have RG21 := Kp.mk hrm
 clear hrm
 have G21 := Kp.mk (hlr.from' HB.out.below)
 clear hlr
 have HB := Kp.mk (HB.out.step hb)
 have HLo := Kp.mk (HLo.out.step hb)
 have HHi := Kp.mk (HHi.out.step hb)
 have G16 := Kp.mk (G16.out.step hb)
 have G17 := Kp.mk (G17.out.step hb)
 have G18 := Kp.mk (G18.out.step hb)
 have G20 := Kp.mk (G20.out.step hb)
 clear hb
 go_wp2_with fail
 refine (gives_set (l := xE4) lnE4 G16.out.now G21.out.now).mono ?_
 rintro e y30 ⟨rfl, hb⟩
 clear G16 G21
 have HB := Kp.mk (HB.out.step hb)
 have HLo := Kp.mk (HLo.out.step hb)
 have HHi := Kp.mk (HHi.out.step hb)
 have G17 := Kp.mk (G17.out.step hb)
 have G18 := Kp.mk (G18.out.step hb)
 have G20 := Kp.mk (G20.out.step hb)
 clear hb
 have k2 := HHi.out.cell 0 _ rfl
 have k3 := HHi.out.cell 1 _ rfl
 go_wp2_with fail
 refine (gives_lit (E := xE5) lnE5 rfl rfl G17.out.now).mono ?_
 rintro e y31 ⟨rfl, hb⟩
 clear k2 k3
 clear G17
 have HB := Kp.mk (HB.out.step hb)
 have HLo := Kp.mk (HLo.out.step hb)
 have HHi := Kp.mk (HHi.out.step hb)
 have G18 := Kp.mk (G18.out.step hb)
 have G20 := Kp.mk (G20.out.step hb)
 clear hb
 have k0 := HLo.out.cell 0 _ rfl
 have k1 := HLo.out.cell 1 _ rfl
 have k2 := HHi.out.cell 0 _ rfl
 have k3 := HHi.out.cell 1 _ rfl
 go_wp2_with fail
 refine (gives_lit (E := xW) lnW rfl rfl G18.out.now).mono ?_
 rintro e y32 ⟨rfl, hb⟩
 clear k0 k1 k2 k3
 clear G18
 have HB := Kp.mk (HB.out.step hb)
 have HLo := Kp.mk (HLo.out.step hb)
 have HHi := Kp.mk (HHi.out.step hb)
 have G20 := Kp.mk (G20.out.step hb)
 clear hb
 have k0 := HLo.out.cell 0 _ rfl
 have k1 := HLo.out.cell 1 _ rfl
 go_wp2_with fail
 refine (gives_lit (E := xE7) lnE7 rfl rfl G20.out.now).mono ?_
 rintro e y33 ⟨rfl, hb⟩
 clear k0 k1
 clear G20
 have HB := Kp.mk (HB.out.step hb)
 have HLo := Kp.mk (HLo.out.step hb)
 have HHi := Kp.mk (HHi.out.step hb)
 clear hb
 go_wp2_with fail
 refine (set_lit [2, 3] xB1 2 2 1 _ _ _ rfl rfl rfl rfl (by decide)).mono ?_
 rintro e y34 ⟨⟨bG22, pG22, rfl, hlr, hrm⟩, hb⟩
 have RG22 := Kp.mk hrm
 clear hrm
 have G22 := Kp.mk (hlr.from' HB.out.below)
 clear hlr
 have HB := Kp.mk (HB.out.step hb)
 have HLo := Kp.mk (HLo.out.step hb)
 have HHi := Kp.mk (HHi.out.step hb)
 clear hb
 go_wp2_with fail
 refine (set_lit [1, 5, 9, 9] xB2 4 4 2 _ _ _ rfl rfl rfl rfl (by decide)).mono ?_
 rintro e y35 ⟨⟨bG23, pG23, rfl, hlr, hrm⟩, hb⟩
 have RG23 := Kp.mk hrm
 clear hrm
 have G23 := Kp.mk (hlr.from' HB.out.below)
 clear hlr
 have HB := Kp.mk (HB.out.step hb)
 have HLo := Kp.mk (HLo.out.step hb)
 have HHi := Kp.mk (HHi.out.step hb)
 have G22 := Kp.mk (G22.out.step hb)
 clear hb
 go_wp2_with fail
 refine ((HC.out.ins (l := xB1) (m := xB2) _ (HI.out _ HB.out.below) inB1 inB2 lnB1 lnB2 G22.out.now G23.out.now vbi vin RG22.out RG23.out)).mono ?_
 rintro e y36 ⟨rfl, hb⟩
 clear G22 G23
 have HB := Kp.mk (HB.out.step hb)
 have HLo := Kp.mk (HLo.out.step hb)
 have HHi := Kp.mk (HHi.out.step hb)
 clear hb
 go_wp2_with fail
 refine (set_lit [1, 3, 7, 7] xB3 4 4 2 _ _ _ rfl rfl rfl rfl (by decide)).mono ?_
 rintro e y37 ⟨⟨bG24, pG24, rfl, hlr, hrm⟩, hb⟩
 have RG24 := Kp.mk hrm
 clear hrm
 have G24 := Kp.mk (hlr.from' HB.out.below)
 clear hlr
 have HB := Kp.mk (HB.out.step hb)
 have HLo := Kp.mk (HLo.out.step hb)
 have HHi := Kp.mk (HHi.out.step hb)
 clear hb
 go_wp2_with fail
 refine ((HC.out.cnt (l := xB3) _ (HI.out _ HB.out.below) inB3 lnB3 G24.out.now vc8 vcnt)).mono ?_
 rintro e y38 ⟨rfl, hb⟩
 clear G24
 have HB := Kp.mk (HB.out.step hb)
 have HLo := Kp.mk (HLo.out.step hb)
 have HHi := Kp.mk (HHi.out.step hb)
 clear hb
 go_wp2_with fail
 refine (HC.out.min_no _ (HI.out _ HB.out.below) (lr_non _)).mono ?_
 rintro e y39 ⟨rfl, hb⟩
 have HB := Kp.mk (HB.out.step hb)
 have HLo := Kp.mk (HLo.out.step hb)
 have HHi := Kp.mk (HHi.out.step hb)
 clear hb
 have k2 := HHi.out.cell 0 _ rfl
 have k3 := HHi.out.cell 1 _ rfl
 go_wp2_with fail
 refine (max_lit HC.out (HI.out _ (HB.out.below.alloc HB.out.below.size _)) rfl rfl).mono ?_
 rintro e y40 ⟨rfl, hb⟩
 clear k2 k3
 clear HLo
 have HB := Kp.mk (HB.out.step hb)
 have HHi := Kp.mk (HHi.out.step hb)
 clear hb
 go_upto_region 20 with fail
 have HX := Kp.mk (vs_new [.int .i8 1, .int .i64 0] 24 HB.out.below)
 have hbl := (Below.refl y40.heap.size y40).alloc (Nat.le_refl _) (.cells #[.int .i8 1, .int .i64 0] 24)
 have HB := Kp.mk (HB.out.step hbl)
 have HHi := Kp.mk (HHi.out.step hbl)
 clear hbl
 have k4 := HX.out.cell 0 _ rfl
 have k5 := HX.out.cell 1 _ rfl
 have k2 := HHi.out.cell 0 _ rfl
 have k3 := HHi.out.cell 1 _ rfl
 clear HX HHi

 generalize y40.alloc (.cells #[.int .i8 1, .int .i64 0] 24) = y41 at *
 generalize y40.heap.size = gx at *
 go_upto_region 23 with fail
 clear k2 k3 k4 k5
 have HS := Kp.mk (vs_new [.string ⟨#[49, 46, 46, 51, 44, 53, 46, 46, 53]⟩, .string ⟨#[]⟩, .string ⟨#[49, 46, 46, 51, 44]⟩, .string ⟨#[49, 46, 46, 51, 44, 52, 46, 46, 52]⟩] 9 HB.out.below)
 have HW := Kp.mk (vs_new [.int .i64 0, .int .i64 5, .int .i64 5, .int .i64 12] 3 HS.out.below)
 have hbl := (Below.refl (y41.alloc (.cells #[.string ⟨#[49, 46, 46, 51, 44, 53, 46, 46, 53]⟩, .string ⟨#[]⟩, .string ⟨#[49, 46, 46, 51, 44]⟩, .string ⟨#[49, 46, 46, 51, 44, 52, 46, 46, 52]⟩] 9)).heap.size (y41.alloc (.cells #[.string ⟨#[49, 46, 46, 51, 44, 53, 46, 46, 53]⟩, .string ⟨#[]⟩, .string ⟨#[49, 46, 46, 51, 44]⟩, .string ⟨#[49, 46, 46, 51, 44, 52, 46, 46, 52]⟩] 9))).alloc (Nat.le_refl _) (.cells #[.int .i64 0, .int .i64 5, .int .i64 5, .int .i64 12] 3)
 have HS := Kp.mk (HS.out.step hbl)
 clear hbl HB
 have hs2 : (y41.alloc (.cells #[.string ⟨#[49, 46, 46, 51, 44, 53, 46, 46, 53]⟩, .string ⟨#[]⟩, .string ⟨#[49, 46, 46, 51, 44]⟩, .string ⟨#[49, 46, 46, 51, 44, 52, 46, 46, 52]⟩] 9)).heap.size = y41.heap.size + 1 := by simp
 rw [hs2] at HW
 clear hs2
 generalize (y41.alloc (.cells #[.string ⟨#[49, 46, 46, 51, 44, 53, 46, 46, 53]⟩, .string ⟨#[]⟩, .string ⟨#[49, 46, 46, 51, 44]⟩, .string ⟨#[49, 46, 46, 51, 44, 52, 46, 46, 52]⟩] 9)).alloc (.cells #[.int .i64 0, .int .i64 5, .int .i64 5, .int .i64 12] 3) = y42 at *
 generalize hgl : y41.heap.size = gs at *
 clear hgl
 generalize hgh : gs + 1 = gw at *
 clear hgh
 go_wp2_with fail
 go_loopw [1, 2, 17] (fun _ _ i wr => ∃ j : Nat, j ≤ 4 ∧ i = .int .i64 (j : Int) ∧ Kp (Vs w gs [.string ⟨#[49, 46, 46, 51, 44, 53, 46, 46, 53]⟩, .string ⟨#[]⟩, .string ⟨#[49, 46, 46, 51, 44]⟩, .string ⟨#[49, 46, 46, 51, 44, 52, 46, 46, 52]⟩] wr) ∧ Kp (Vs w gw [.int .i64 0, .int .i64 5, .int .i64 5, .int .i64 12] wr)) (fun _ _ i _ => 4 - (intOf i).toNat)
 case atStart => exact ⟨0, by omega, rfl, HS, HW⟩
 case round =>
  clear HS HW
  obtain ⟨j, hj, rfl, HS, HW⟩ := hrel
  have HB := Kp.mk (Bl.mk HS.out.below)
  by_cases hlt : j < 4
  ·rcases (show j = 0 ∨ j = 1 ∨ j = 2 ∨ j = 3 by omega) with rfl | rfl | rfl | rfl
   ·have ks := HS.out.cell 0 _ rfl
    go_wp2_with fail
    refine (HC.out.parse (l := [49, 46, 46, 51, 44, 53, 46, 46, 53]) (m := xP1) _ (HI.out _ HB.out.below) (by decide) (part_len (by decide)) vp1).mono ?_
    rintro e y101 ⟨⟨bp, rfl, hlr⟩, hb⟩
    have GP := Kp.mk (hlr.from' HB.out.below)
    clear hlr
    clear ks
    have HB := Kp.mk (HB.out.step hb)
    have HS := Kp.mk (HS.out.step hb)
    have HW := Kp.mk (HW.out.step hb)
    clear hb
    go_upto_region 27 with fail
    have hbl := (Below.refl y101.heap.size y101).drew
    have HBz := Kp.mk (HB.out.step hbl)
    have HSz := Kp.mk (HS.out.step hbl)
    have HWz := Kp.mk (HW.out.step hbl)
    have GPz := Kp.mk (GP.out.step hbl)
    obtain ⟨k0z, k1z⟩ := And.intro (HWz.out.cell 0 _ rfl) (HWz.out.cell 0 _ rfl)
    clear hbl
    refine wp_region_held_drew (S := fun w' => w'.cell? ⟨gw, 0, none⟩ = some (.int .i64 0) ∧ w'.cell? ⟨gw, 0, none⟩ = some (.int .i64 0)) (by kernel_rfl) ?_ (fun hHeld => ?_)
    ·with_reducible exact ⟨k0z, k1z⟩
    refine tk 0 ?_ rfl hHeld ?_ ?_
    rotate_left
    ·(intro w hSw; (try dsimp only at hSw); go_simp; try with_reducible rfl)
    try simp only [pt]
    refine tk 1 ?_ rfl hHeld ?_ ?_
    rotate_left
    ·(intro w hSw; (try dsimp only at hSw); go_simp; try with_reducible rfl)
    try simp only [pt]
    refine tk 4 ?_ rfl hHeld ?_ ?_
    rotate_left
    ·(intro w hSw; (try dsimp only at hSw); go_simp; try with_reducible rfl)
    try simp only [pt]
    refine tk 5 ?_ rfl hHeld ?_ ?_
    rotate_left
    ·(intro w hSw; (try dsimp only at hSw); go_simp; try with_reducible rfl)
    try simp only [pt]
    refine tk 6 ?_ rfl hHeld ?_ ?_
    rotate_left
    ·(intro w hSw; (try dsimp only at hSw); go_simp; try with_reducible rfl)
    try simp only [pt]
    refine tk 7 ?_ rfl hHeld ?_ ?_
    rotate_left
    ·(intro w hSw; (try dsimp only at hSw); go_simp; try with_reducible rfl)
    try simp only [pt]
    refine rd [2] ?_
    refine AllReadyH.cons (dropAt rfl) (fun K hK => ?_) AllReadyH.nil
    clear hHeld k0z k1z
    have HB0 := HB
    have HS0 := HS
    have HW0 := HW
    have GP0 := GP
    go_simp
    have HB := HBz
    have HS := HSz
    have HW := HWz
    have GP := GPz
    have HZ : Kp (Zs w y101.heap.size [1, 3, 5, 5] (y101.alloc (.cells #[.int .i64 1, .int .i64 3, .int .i64 5, .int .i64 5] 2))) := Kp.mk (zs_new [1, 3, 5, 5] 2 HB0.out.below)
    have hbl := ((Below.refl y101.heap.size y101).alloc (Nat.le_refl _) (.cells #[.int .i64 1, .int .i64 3, .int .i64 5, .int .i64 5] 2)).drew
    have HZ := Kp.mk (HZ.out.step (Below.refl (y101.alloc (.cells #[.int .i64 1, .int .i64 3, .int .i64 5, .int .i64 5] 2)).heap.size _).drew)
    have HB := Kp.mk (HB0.out.step hbl)
    have HS := Kp.mk (HS0.out.step hbl)
    have HW := Kp.mk (HW0.out.step hbl)
    have GP := Kp.mk (GP0.out.step hbl)
    clear hbl HB0 HS0 HW0 GP0
    generalize (y101.alloc (.cells #[.int .i64 1, .int .i64 3, .int .i64 5, .int .i64 5] 2)).drew = y111 at *
    generalize y101.heap.size = gz at *
    obtain ⟨k0_y111, k1_y111⟩ := And.intro (HW.out.cell 0 _ rfl) (HW.out.cell 0 _ rfl)
    refine hK.out _ _ ?_ (fun hHeld => ?_)
    ·with_reducible exact ⟨k0_y111, k1_y111⟩
    clear hK K
    try simp only [pt]
    refine rd [3] ?_
    refine AllReadyH.cons (dropAt rfl) (fun K hK => ?_) AllReadyH.nil
    go_simp
    go_at_call 71
    with_reducible refine (rset.out _ _ _ HZ.out.now).mono ?_
    rintro e y112 ⟨⟨bz, pz, rfl, hlr⟩, hb⟩
    have HB_y112 := Kp.mk (HB.out.step hb)
    have HS_y112 := Kp.mk (HS.out.step hb)
    have HW_y112 := Kp.mk (HW.out.step hb)
    have GP_y112 := Kp.mk (GP.out.step hb)
    have GZ_y112 := Kp.mk (hlr.from' HB.out.below)
    clear hlr HZ
    obtain ⟨k0_y112, k1_y112⟩ := And.intro (HW_y112.out.cell 0 _ rfl) (HW_y112.out.cell 0 _ rfl)
    clear hHeld k0_y111 k1_y111 HB HS HW GP hb
    go_wp2_with fail
    refine hK.out _ _ ?_ (fun hHeld => ?_)
    ·with_reducible exact ⟨k0_y112, k1_y112⟩
    clear hK K
    try simp only [pt]
    refine rd [8] ?_
    refine AllReadyH.cons (dropAt rfl) (fun K hK => ?_) AllReadyH.nil
    go_simp
    go_at_call 46
    with_reducible refine (rgs.out _ _ _ _ GP_y112.out.now GZ_y112.out.now).mono ?_
    rintro e y113 ⟨rfl, hb⟩
    have HB_y113 := Kp.mk (HB_y112.out.step hb)
    have HS_y113 := Kp.mk (HS_y112.out.step hb)
    have HW_y113 := Kp.mk (HW_y112.out.step hb)
    have GP_y113 := Kp.mk (GP_y112.out.step hb)
    have GZ_y113 := Kp.mk (GZ_y112.out.step hb)

    obtain ⟨k0_y113, k1_y113⟩ := And.intro (HW_y113.out.cell 0 _ rfl) (HW_y113.out.cell 0 _ rfl)
    clear hHeld k0_y112 k1_y112 HB_y112 HS_y112 HW_y112 GP_y112 GZ_y112 hb
    go_wp2_with fail
    refine hK.out _ _ ?_ (fun hHeld => ?_)
    ·with_reducible exact ⟨k0_y113, k1_y113⟩
    clear hK K
    try simp only [pt]
    refine tk 9 ?_ rfl hHeld ?_ ?_
    rotate_left
    ·(intro w hSw; (try dsimp only at hSw); go_simp; try with_reducible rfl)
    try simp only [pt]
    refine wpAnyH_done (by kernel_rfl) ?_ _
    clear hHeld
    have HB := HB_y113
    have HS := HS_y113
    have HW := HW_y113
    have GP := GP_y113
    clear k0_y113 k1_y113
    go_wp2_with fail
    go_roundw
    case rel =>
     first
      | exact ⟨1, by omega, rfl, HS, HW⟩
      | ((repeat apply Exists.intro); exact ⟨⟨1, by omega, rfl, HS, HW⟩, rfl⟩)
    case measure => simp [intOf]
   ·have ks := HS.out.cell 1 _ rfl
    go_wp2_with fail
    refine (HC.out.parse_bad (l := []) (m := []) (c := 5) _ (HI.out _ HB.out.below) (by decide) (part_len (by decide)) vp2 (by decide)).mono ?_
    rintro e y121 ⟨⟨bp, pp, rfl⟩, hb⟩
    clear ks
    have HB := Kp.mk (HB.out.step hb)
    have HS := Kp.mk (HS.out.step hb)
    have HW := Kp.mk (HW.out.step hb)
    clear hb
    go_upto_region 27 with fail
    have hbl := (Below.refl y121.heap.size y121).drew
    have HBz := Kp.mk (HB.out.step hbl)
    have HSz := Kp.mk (HS.out.step hbl)
    have HWz := Kp.mk (HW.out.step hbl)
    obtain ⟨k0z, k1z⟩ := And.intro (HWz.out.cell 1 _ rfl) (HWz.out.cell 0 _ rfl)
    clear hbl
    refine wp_region_held_drew (S := fun w' => w'.cell? ⟨gw, 1, none⟩ = some (.int .i64 5) ∧ w'.cell? ⟨gw, 0, none⟩ = some (.int .i64 0)) (by kernel_rfl) ?_ (fun hHeld => ?_)
    ·with_reducible exact ⟨k0z, k1z⟩
    refine tk 0 ?_ rfl hHeld ?_ ?_
    rotate_left
    ·(intro w hSw; (try dsimp only at hSw); go_simp; try with_reducible rfl)
    try simp only [pt]
    refine tk 1 ?_ rfl hHeld ?_ ?_
    rotate_left
    ·(intro w hSw; (try dsimp only at hSw); go_simp; try with_reducible rfl)
    try simp only [pt]
    refine tk 4 ?_ rfl hHeld ?_ ?_
    rotate_left
    ·(intro w hSw; (try dsimp only at hSw); go_simp; try with_reducible rfl)
    try simp only [pt]
    refine tk 5 ?_ rfl hHeld ?_ ?_
    rotate_left
    ·(intro w hSw; (try dsimp only at hSw); go_simp; try with_reducible rfl)
    try simp only [pt]
    refine tk 6 ?_ rfl hHeld ?_ ?_
    rotate_left
    ·(intro w hSw; (try dsimp only at hSw); go_simp; try with_reducible rfl)
    try simp only [pt]
    refine tk 7 ?_ rfl hHeld ?_ ?_
    rotate_left
    ·(intro w hSw; (try dsimp only at hSw); go_simp; try with_reducible rfl)
    try simp only [pt]
    refine rd [2] ?_
    refine AllReadyH.cons (dropAt rfl) (fun K hK => ?_) AllReadyH.nil
    clear hHeld k0z k1z
    have HB0 := HB
    have HS0 := HS
    have HW0 := HW
    go_simp
    have HB := HBz
    have HS := HSz
    have HW := HWz
    have HZ : Kp (Zs w y121.heap.size [1, 3, 5, 5] (y121.alloc (.cells #[.int .i64 1, .int .i64 3, .int .i64 5, .int .i64 5] 2))) := Kp.mk (zs_new [1, 3, 5, 5] 2 HB0.out.below)
    have hbl := ((Below.refl y121.heap.size y121).alloc (Nat.le_refl _) (.cells #[.int .i64 1, .int .i64 3, .int .i64 5, .int .i64 5] 2)).drew
    have HZ := Kp.mk (HZ.out.step (Below.refl (y121.alloc (.cells #[.int .i64 1, .int .i64 3, .int .i64 5, .int .i64 5] 2)).heap.size _).drew)
    have HB := Kp.mk (HB0.out.step hbl)
    have HS := Kp.mk (HS0.out.step hbl)
    have HW := Kp.mk (HW0.out.step hbl)
    clear hbl HB0 HS0 HW0
    generalize (y121.alloc (.cells #[.int .i64 1, .int .i64 3, .int .i64 5, .int .i64 5] 2)).drew = y131 at *
    generalize y121.heap.size = gz at *
    obtain ⟨k0_y131, k1_y131⟩ := And.intro (HW.out.cell 1 _ rfl) (HW.out.cell 0 _ rfl)
    refine hK.out _ _ ?_ (fun hHeld => ?_)
    ·with_reducible exact ⟨k0_y131, k1_y131⟩
    clear hK K
    try simp only [pt]
    refine rd [3] ?_
    refine AllReadyH.cons (dropAt rfl) (fun K hK => ?_) AllReadyH.nil
    go_simp
    go_at_call 71
    with_reducible refine (rset.out _ _ _ HZ.out.now).mono ?_
    rintro e y132 ⟨⟨bz, pz, rfl, hlr⟩, hb⟩
    have HB_y132 := Kp.mk (HB.out.step hb)
    have HS_y132 := Kp.mk (HS.out.step hb)
    have HW_y132 := Kp.mk (HW.out.step hb)
    have GZ_y132 := Kp.mk (hlr.from' HB.out.below)
    clear hlr HZ
    obtain ⟨k0_y132, k1_y132⟩ := And.intro (HW_y132.out.cell 1 _ rfl) (HW_y132.out.cell 0 _ rfl)
    clear hHeld k0_y131 k1_y131 HB HS HW hb
    go_wp2_with fail
    refine hK.out _ _ ?_ (fun hHeld => ?_)
    ·with_reducible exact ⟨k0_y132, k1_y132⟩
    clear hK K
    try simp only [pt]
    refine rd [8] ?_
    refine AllReadyH.cons (dropAt rfl) (fun K hK => ?_) AllReadyH.nil
    go_simp
    go_at_call 46
    with_reducible refine (rgn1.out _ _ _ _ _ _).mono ?_
    rintro e y133 ⟨rfl, hb⟩
    have HB_y133 := Kp.mk (HB_y132.out.step hb)
    have HS_y133 := Kp.mk (HS_y132.out.step hb)
    have HW_y133 := Kp.mk (HW_y132.out.step hb)
    have GZ_y133 := Kp.mk (GZ_y132.out.step hb)

    obtain ⟨k0_y133, k1_y133⟩ := And.intro (HW_y133.out.cell 1 _ rfl) (HW_y133.out.cell 0 _ rfl)
    clear hHeld k0_y132 k1_y132 HB_y132 HS_y132 HW_y132 GZ_y132 hb
    go_wp2_with fail
    refine hK.out _ _ ?_ (fun hHeld => ?_)
    ·with_reducible exact ⟨k0_y133, k1_y133⟩
    clear hK K
    try simp only [pt]
    refine tk 9 ?_ rfl hHeld ?_ ?_
    rotate_left
    ·(intro w hSw; (try dsimp only at hSw); go_simp; try with_reducible rfl)
    try simp only [pt]
    refine wpAnyH_done (by kernel_rfl) ?_ _
    clear hHeld
    have HB := HB_y133
    have HS := HS_y133
    have HW := HW_y133
    clear k0_y133 k1_y133
    go_wp2_with fail
    go_roundw
    case rel =>
     first
      | exact ⟨2, by omega, rfl, HS, HW⟩
      | ((repeat apply Exists.intro); exact ⟨⟨2, by omega, rfl, HS, HW⟩, rfl⟩)
    case measure => simp [intOf]
   ·have ks := HS.out.cell 2 _ rfl
    go_wp2_with fail
    refine (HC.out.parse_bad (l := [49, 46, 46, 51, 44]) (m := []) (c := 5) _ (HI.out _ HB.out.below) (by decide) (part_len (by decide)) vp3 (by decide)).mono ?_
    rintro e y141 ⟨⟨bp, pp, rfl⟩, hb⟩
    clear ks
    have HB := Kp.mk (HB.out.step hb)
    have HS := Kp.mk (HS.out.step hb)
    have HW := Kp.mk (HW.out.step hb)
    clear hb
    go_upto_region 27 with fail
    have hbl := (Below.refl y141.heap.size y141).drew
    have HBz := Kp.mk (HB.out.step hbl)
    have HSz := Kp.mk (HS.out.step hbl)
    have HWz := Kp.mk (HW.out.step hbl)
    obtain ⟨k0z, k1z⟩ := And.intro (HWz.out.cell 2 _ rfl) (HWz.out.cell 0 _ rfl)
    clear hbl
    refine wp_region_held_drew (S := fun w' => w'.cell? ⟨gw, 2, none⟩ = some (.int .i64 5) ∧ w'.cell? ⟨gw, 0, none⟩ = some (.int .i64 0)) (by kernel_rfl) ?_ (fun hHeld => ?_)
    ·with_reducible exact ⟨k0z, k1z⟩
    refine tk 0 ?_ rfl hHeld ?_ ?_
    rotate_left
    ·(intro w hSw; (try dsimp only at hSw); go_simp; try with_reducible rfl)
    try simp only [pt]
    refine tk 1 ?_ rfl hHeld ?_ ?_
    rotate_left
    ·(intro w hSw; (try dsimp only at hSw); go_simp; try with_reducible rfl)
    try simp only [pt]
    refine tk 4 ?_ rfl hHeld ?_ ?_
    rotate_left
    ·(intro w hSw; (try dsimp only at hSw); go_simp; try with_reducible rfl)
    try simp only [pt]
    refine tk 5 ?_ rfl hHeld ?_ ?_
    rotate_left
    ·(intro w hSw; (try dsimp only at hSw); go_simp; try with_reducible rfl)
    try simp only [pt]
    refine tk 6 ?_ rfl hHeld ?_ ?_
    rotate_left
    ·(intro w hSw; (try dsimp only at hSw); go_simp; try with_reducible rfl)
    try simp only [pt]
    refine tk 7 ?_ rfl hHeld ?_ ?_
    rotate_left
    ·(intro w hSw; (try dsimp only at hSw); go_simp; try with_reducible rfl)
    try simp only [pt]
    refine rd [2] ?_
    refine AllReadyH.cons (dropAt rfl) (fun K hK => ?_) AllReadyH.nil
    clear hHeld k0z k1z
    have HB0 := HB
    have HS0 := HS
    have HW0 := HW
    go_simp
    have HB := HBz
    have HS := HSz
    have HW := HWz
    have HZ : Kp (Zs w y141.heap.size [1, 3, 5, 5] (y141.alloc (.cells #[.int .i64 1, .int .i64 3, .int .i64 5, .int .i64 5] 2))) := Kp.mk (zs_new [1, 3, 5, 5] 2 HB0.out.below)
    have hbl := ((Below.refl y141.heap.size y141).alloc (Nat.le_refl _) (.cells #[.int .i64 1, .int .i64 3, .int .i64 5, .int .i64 5] 2)).drew
    have HZ := Kp.mk (HZ.out.step (Below.refl (y141.alloc (.cells #[.int .i64 1, .int .i64 3, .int .i64 5, .int .i64 5] 2)).heap.size _).drew)
    have HB := Kp.mk (HB0.out.step hbl)
    have HS := Kp.mk (HS0.out.step hbl)
    have HW := Kp.mk (HW0.out.step hbl)
    clear hbl HB0 HS0 HW0
    generalize (y141.alloc (.cells #[.int .i64 1, .int .i64 3, .int .i64 5, .int .i64 5] 2)).drew = y151 at *
    generalize y141.heap.size = gz at *
    obtain ⟨k0_y151, k1_y151⟩ := And.intro (HW.out.cell 2 _ rfl) (HW.out.cell 0 _ rfl)
    refine hK.out _ _ ?_ (fun hHeld => ?_)
    ·with_reducible exact ⟨k0_y151, k1_y151⟩
    clear hK K
    try simp only [pt]
    refine rd [3] ?_
    refine AllReadyH.cons (dropAt rfl) (fun K hK => ?_) AllReadyH.nil
    go_simp
    go_at_call 71
    with_reducible refine (rset.out _ _ _ HZ.out.now).mono ?_
    rintro e y152 ⟨⟨bz, pz, rfl, hlr⟩, hb⟩
    have HB_y152 := Kp.mk (HB.out.step hb)
    have HS_y152 := Kp.mk (HS.out.step hb)
    have HW_y152 := Kp.mk (HW.out.step hb)
    have GZ_y152 := Kp.mk (hlr.from' HB.out.below)
    clear hlr HZ
    obtain ⟨k0_y152, k1_y152⟩ := And.intro (HW_y152.out.cell 2 _ rfl) (HW_y152.out.cell 0 _ rfl)
    clear hHeld k0_y151 k1_y151 HB HS HW hb
    go_wp2_with fail
    refine hK.out _ _ ?_ (fun hHeld => ?_)
    ·with_reducible exact ⟨k0_y152, k1_y152⟩
    clear hK K
    try simp only [pt]
    refine rd [8] ?_
    refine AllReadyH.cons (dropAt rfl) (fun K hK => ?_) AllReadyH.nil
    go_simp
    go_at_call 46
    with_reducible refine (rgn2.out _ _ _ _ _ _).mono ?_
    rintro e y153 ⟨rfl, hb⟩
    have HB_y153 := Kp.mk (HB_y152.out.step hb)
    have HS_y153 := Kp.mk (HS_y152.out.step hb)
    have HW_y153 := Kp.mk (HW_y152.out.step hb)
    have GZ_y153 := Kp.mk (GZ_y152.out.step hb)

    obtain ⟨k0_y153, k1_y153⟩ := And.intro (HW_y153.out.cell 2 _ rfl) (HW_y153.out.cell 0 _ rfl)
    clear hHeld k0_y152 k1_y152 HB_y152 HS_y152 HW_y152 GZ_y152 hb
    go_wp2_with fail
    refine hK.out _ _ ?_ (fun hHeld => ?_)
    ·with_reducible exact ⟨k0_y153, k1_y153⟩
    clear hK K
    try simp only [pt]
    refine tk 9 ?_ rfl hHeld ?_ ?_
    rotate_left
    ·(intro w hSw; (try dsimp only at hSw); go_simp; try with_reducible rfl)
    try simp only [pt]
    refine wpAnyH_done (by kernel_rfl) ?_ _
    clear hHeld
    have HB := HB_y153
    have HS := HS_y153
    have HW := HW_y153
    clear k0_y153 k1_y153
    go_wp2_with fail
    go_roundw
    case rel =>
     first
      | exact ⟨3, by omega, rfl, HS, HW⟩
      | ((repeat apply Exists.intro); exact ⟨⟨3, by omega, rfl, HS, HW⟩, rfl⟩)
    case measure => simp [intOf]
   ·have ks := HS.out.cell 3 _ rfl
    go_wp2_with fail
    refine (HC.out.parse_bad (l := [49, 46, 46, 51, 44, 52, 46, 46, 52]) (m := []) (c := 12) _ (HI.out _ HB.out.below) (by decide) (part_len (by decide)) vp4 (by decide)).mono ?_
    rintro e y161 ⟨⟨bp, pp, rfl⟩, hb⟩
    clear ks
    have HB := Kp.mk (HB.out.step hb)
    have HS := Kp.mk (HS.out.step hb)
    have HW := Kp.mk (HW.out.step hb)
    clear hb
    go_upto_region 27 with fail
    have hbl := (Below.refl y161.heap.size y161).drew
    have HBz := Kp.mk (HB.out.step hbl)
    have HSz := Kp.mk (HS.out.step hbl)
    have HWz := Kp.mk (HW.out.step hbl)
    obtain ⟨k0z, k1z⟩ := And.intro (HWz.out.cell 3 _ rfl) (HWz.out.cell 0 _ rfl)
    clear hbl
    refine wp_region_held_drew (S := fun w' => w'.cell? ⟨gw, 3, none⟩ = some (.int .i64 12) ∧ w'.cell? ⟨gw, 0, none⟩ = some (.int .i64 0)) (by kernel_rfl) ?_ (fun hHeld => ?_)
    ·with_reducible exact ⟨k0z, k1z⟩
    refine tk 0 ?_ rfl hHeld ?_ ?_
    rotate_left
    ·(intro w hSw; (try dsimp only at hSw); go_simp; try with_reducible rfl)
    try simp only [pt]
    refine tk 1 ?_ rfl hHeld ?_ ?_
    rotate_left
    ·(intro w hSw; (try dsimp only at hSw); go_simp; try with_reducible rfl)
    try simp only [pt]
    refine tk 4 ?_ rfl hHeld ?_ ?_
    rotate_left
    ·(intro w hSw; (try dsimp only at hSw); go_simp; try with_reducible rfl)
    try simp only [pt]
    refine tk 5 ?_ rfl hHeld ?_ ?_
    rotate_left
    ·(intro w hSw; (try dsimp only at hSw); go_simp; try with_reducible rfl)
    try simp only [pt]
    refine tk 6 ?_ rfl hHeld ?_ ?_
    rotate_left
    ·(intro w hSw; (try dsimp only at hSw); go_simp; try with_reducible rfl)
    try simp only [pt]
    refine tk 7 ?_ rfl hHeld ?_ ?_
    rotate_left
    ·(intro w hSw; (try dsimp only at hSw); go_simp; try with_reducible rfl)
    try simp only [pt]
    refine rd [2] ?_
    refine AllReadyH.cons (dropAt rfl) (fun K hK => ?_) AllReadyH.nil
    clear hHeld k0z k1z
    have HB0 := HB
    have HS0 := HS
    have HW0 := HW
    go_simp
    have HB := HBz
    have HS := HSz
    have HW := HWz
    have HZ : Kp (Zs w y161.heap.size [1, 3, 5, 5] (y161.alloc (.cells #[.int .i64 1, .int .i64 3, .int .i64 5, .int .i64 5] 2))) := Kp.mk (zs_new [1, 3, 5, 5] 2 HB0.out.below)
    have hbl := ((Below.refl y161.heap.size y161).alloc (Nat.le_refl _) (.cells #[.int .i64 1, .int .i64 3, .int .i64 5, .int .i64 5] 2)).drew
    have HZ := Kp.mk (HZ.out.step (Below.refl (y161.alloc (.cells #[.int .i64 1, .int .i64 3, .int .i64 5, .int .i64 5] 2)).heap.size _).drew)
    have HB := Kp.mk (HB0.out.step hbl)
    have HS := Kp.mk (HS0.out.step hbl)
    have HW := Kp.mk (HW0.out.step hbl)
    clear hbl HB0 HS0 HW0
    generalize (y161.alloc (.cells #[.int .i64 1, .int .i64 3, .int .i64 5, .int .i64 5] 2)).drew = y171 at *
    generalize y161.heap.size = gz at *
    obtain ⟨k0_y171, k1_y171⟩ := And.intro (HW.out.cell 3 _ rfl) (HW.out.cell 0 _ rfl)
    refine hK.out _ _ ?_ (fun hHeld => ?_)
    ·with_reducible exact ⟨k0_y171, k1_y171⟩
    clear hK K
    try simp only [pt]
    refine rd [3] ?_
    refine AllReadyH.cons (dropAt rfl) (fun K hK => ?_) AllReadyH.nil
    go_simp
    go_at_call 71
    with_reducible refine (rset.out _ _ _ HZ.out.now).mono ?_
    rintro e y172 ⟨⟨bz, pz, rfl, hlr⟩, hb⟩
    have HB_y172 := Kp.mk (HB.out.step hb)
    have HS_y172 := Kp.mk (HS.out.step hb)
    have HW_y172 := Kp.mk (HW.out.step hb)
    have GZ_y172 := Kp.mk (hlr.from' HB.out.below)
    clear hlr HZ
    obtain ⟨k0_y172, k1_y172⟩ := And.intro (HW_y172.out.cell 3 _ rfl) (HW_y172.out.cell 0 _ rfl)
    clear hHeld k0_y171 k1_y171 HB HS HW hb
    go_wp2_with fail
    refine hK.out _ _ ?_ (fun hHeld => ?_)
    ·with_reducible exact ⟨k0_y172, k1_y172⟩
    clear hK K
    try simp only [pt]
    refine rd [8] ?_
    refine AllReadyH.cons (dropAt rfl) (fun K hK => ?_) AllReadyH.nil
    go_simp
    go_at_call 46
    with_reducible refine (rgn3.out _ _ _ _ _ _).mono ?_
    rintro e y173 ⟨rfl, hb⟩
    have HB_y173 := Kp.mk (HB_y172.out.step hb)
    have HS_y173 := Kp.mk (HS_y172.out.step hb)
    have HW_y173 := Kp.mk (HW_y172.out.step hb)
    have GZ_y173 := Kp.mk (GZ_y172.out.step hb)

    obtain ⟨k0_y173, k1_y173⟩ := And.intro (HW_y173.out.cell 3 _ rfl) (HW_y173.out.cell 0 _ rfl)
    clear hHeld k0_y172 k1_y172 HB_y172 HS_y172 HW_y172 GZ_y172 hb
    go_wp2_with fail
    refine hK.out _ _ ?_ (fun hHeld => ?_)
    ·with_reducible exact ⟨k0_y173, k1_y173⟩
    clear hK K
    try simp only [pt]
    refine tk 9 ?_ rfl hHeld ?_ ?_
    rotate_left
    ·(intro w hSw; (try dsimp only at hSw); go_simp; try with_reducible rfl)
    try simp only [pt]
    refine wpAnyH_done (by kernel_rfl) ?_ _
    clear hHeld
    have HB := HB_y173
    have HS := HS_y173
    have HW := HW_y173
    clear k0_y173 k1_y173
    go_wp2_with fail
    go_roundw
    case rel =>
     first
      | exact ⟨4, by omega, rfl, HS, HW⟩
      | ((repeat apply Exists.intro); exact ⟨⟨4, by omega, rfl, HS, HW⟩, rfl⟩)
    case measure => simp [intOf]
  ·obtain rfl : j = 4 := by omega
   go_wp2_with fail
   go_ret
   exact ⟨rfl, HB.out.below⟩
end Go.Proofs.YtndjcmclmhoigaaGreatDoor
