/-
 DERIVED. WALK of the law RunsetsPlain, given the contracts of package runsets. Written by mkrs9.py.
-/
import Derived.Test.YtndjcmclmhoigaaGreatDoorPD2
namespace Go.Proofs.YtndjcmclmhoigaaGreatDoor
open Go.RowKit
set_option maxRecDepth 100000

variable {w W W' : World} {a b : Option Addr} {L M : List (Int × Int)} {l m : List Rn} {cap cap2 : Nat}
/-- a run set as plain data in a block -/
structure Sq (w : World) (g : Nat) (x : Int) (v : Value) (k : Int) (W : World) : Prop where
 below : Below w.heap.size w W
 size : g < W.heap.size
 c0 : W.cell? ⟨g, 0, none⟩ = some (.int .i16 x)
 c1 : W.cell? ⟨g, 1, none⟩ = some v
 c2 : W.cell? ⟨g, 2, none⟩ = some (.int .u8 k)
theorem Sq.step {g : Nat} {x k : Int} {v : Value} (h : Sq w g x v k W) (hb : Below W.heap.size W W') : Sq w g x v k W' :=
 ⟨h.below.trans (hb.mono h.below.size), by have := hb.size; have := h.size; omega, by rw [hb.cell (p := ⟨g, 0, none⟩) h.size]; exact h.c0, by rw [hb.cell (p := ⟨g, 1, none⟩) h.size]; exact h.c1, by rw [hb.cell (p := ⟨g, 2, none⟩) h.size]; exact h.c2⟩
theorem Sq.three {g : Nat} {x k : Int} {v : Value} (h : Sq w g x v k W) : W.cell? ⟨g, 0, none⟩ = some (.int .i16 x) ∧ W.cell? ⟨g, 1, none⟩ = some v ∧ W.cell? ⟨g, 2, none⟩ = some (.int .u8 k) := ⟨h.c0, h.c1, h.c2⟩
theorem sq_new (x k : Int) (v : Value) (t : TypeId) (hb : Below w.heap.size w W) : Sq w W.heap.size x v k (W.alloc (.cells #[.int .i16 x, v, .int .u8 k] t)) :=
 ⟨hb.alloc hb.size _, by simp, by rw [World.cell?_alloc_new]; rfl, by rw [World.cell?_alloc_new]; rfl, by rw [World.cell?_alloc_new]; rfl⟩
theorem sq_two (w : World) (x k y m : Int) (v u : Value) : Sq w w.heap.size x v k ((w.alloc (.cells #[.int .i16 x, v, .int .u8 k] 86)).alloc (.cells #[.int .i16 y, u, .int .u8 m] 86)) ∧ Sq w (w.heap.size + 1) y u m ((w.alloc (.cells #[.int .i16 x, v, .int .u8 k] 86)).alloc (.cells #[.int .i16 y, u, .int .u8 m] 86)) := by
 have h1 := sq_new x k v 86 (Below.refl w.heap.size w)
 have h2 := sq_new y m u 86 h1.below
 rw [World.size_alloc] at h2
 exact ⟨h1.step ((Below.refl (w.alloc (.cells #[.int .i16 x, v, .int .u8 k] 86)).heap.size _).alloc (Nat.le_refl _) _), h2⟩
theorem cntD_bd {p : Int → Bool} : ∀ k, 0 ≤ cntD p k ∧ cntD p k ≤ (k : Int)
 | 0 => ⟨Int.le_refl _, Int.le_refl _⟩
 | k + 1 => by
  have := cntD_bd (p := p) k
  unfold cntD
  split <;> omega
theorem Rs.both (hl : Rs l) (hm : Rs m) (nl : l.length ≤ 12) (nm : m.length ≤ 12) : bothRs l m = 0 := by
 unfold bothRs
 rw [if_pos (hl.chk nl)]
 exact hm.chk nm
theorem cntR_fin {c : Int} (hl : Rs l) (hf : FinR l) (hc : cntD (fun x => hasRs l x) 321 = c) : CntR l c 0 := by
 have h1 := hl.cnt hf
 have h2 := cntD_bd (p := fun x => hasRs l x) 321
 exact ⟨fun q => absurd hf q, fun _ _ => ⟨by rw [h1, hc], rfl⟩, fun _ q => absurd (by omega) q⟩
theorem cntR_inf (hf : ¬ FinR l) : CntR l 0 16 := ⟨fun _ => ⟨rfl, rfl⟩, fun q => absurd q hf, fun q => absurd q hf⟩
set_option maxHeartbeats 16000000 in
theorem lawPlain_any {I : World → Prop} (C : SetFns I) {x k y m : Int} (hI : I w) (k0 : 0 ≤ k) (m0 : 0 ≤ m) (hbL : ∀ p, p ∈ L → 0 ≤ p.1 ∧ p.1 ≤ 255 ∧ 0 ≤ p.2 ∧ p.2 ≤ 255) (hbM : ∀ p, p ∈ M → 0 ≤ p.1 ∧ p.1 ≤ 255 ∧ 0 ≤ p.2 ∧ p.2 ≤ 255) (nL : L.length ≤ maxLen) (nM : M.length ≤ maxLen) (hL : Lp w a L w) (hM : Lp w b M w) :
 Calls Tryz.prog 11 #[.agg #[.int .i16 x, .slice a L.length cap, .int .u8 k], .agg #[.int .i16 y, .slice b M.length cap2, .int .u8 m]] w fun e w' => e = .returned (.bool true) ∧ Below w.heap.size w w' := by
 obtain ⟨x', hx⟩ : ∃ y, x.tmod 40 = y := ⟨_, rfl⟩
 obtain ⟨y', hy⟩ : ∃ z, y.tmod 40 = z := ⟨_, rfl⟩
 have bx : -39 ≤ x' ∧ x' ≤ 39 := by have := tmod_of (a := x) (k := 40) (by omega); rw [hx] at this; split at this <;> omega
 have by' : -39 ≤ y' ∧ y' ≤ 39 := by have := tmod_of (a := y) (k := 40) (by omega); rw [hy] at this; split at this <;> omega
 have wx : IntKind.i16.wrap x' = x' := by simp [IntKind.wrap, IntKind.signed, IntKind.bits]; omega
 have wy : IntKind.i16.wrap y' = y' := by simp [IntKind.wrap, IntKind.signed, IntKind.bits]; omega
 obtain ⟨A, hA⟩ : ∃ A, setS x' L k = A := ⟨_, rfl⟩
 obtain ⟨B, hB⟩ : ∃ B, setS y' M m = B := ⟨_, rfl⟩
 have ra : Rs A := by rw [← hA]; exact setS_rs (by omega) (by omega)
 have rb : Rs B := by rw [← hB]; exact setS_rs (by omega) (by omega)
 have lA : A.length ≤ 12 := by rw [← hA]; exact setS_len _ _ _
 have lB : B.length ≤ 12 := by rw [← hB]; exact setS_len _ _ _
 have NA : A.length ≤ maxLen := by unfold maxLen; omega
 have NB : B.length ≤ maxLen := by unfold maxLen; omega
 have hab := ra.both rb lA lB
 have HI := Kp.mk (fun (v : World) (h : Below w.heap.size w v) => C.keep hI h)
 have r1 := Kp.mk (fun v (q : Lp v a L v) => by have := ofS_is (x := x') (k := k) (cap := cap) (by omega) (by omega) k0 hbL nL q; rw [hA] at this; exact this)
 have r2 := Kp.mk (fun v (q : Lp v b M v) => by have := ofS_is (x := y') (k := m) (cap := cap2) (by omega) (by omega) m0 hbM nM q; rw [hB] at this; exact this)
 have rl := Kp.mk (fun v (hv : Below w.heap.size w v) => C.lives v (HI.out v hv))
 have ru := Kp.mk (fun v (a b : Option Addr) (p q : Nat) (hv : Below w.heap.size w v) (h1 : Lr v a A v) (h2 : Lr v b B v) (hp : A.length ≤ p) (hq : B.length ≤ q) => uni_s (p := p) (q := q) C.toSetCore v (HI.out v hv) ra.inl rb.inl NA NB h1 h2 hab (by omega) hp hq)
 have rc := Kp.mk (fun v (a b : Option Addr) (p q : Nat) (hv : Below w.heap.size w v) (h1 : Lr v a A v) (h2 : Lr v b B v) (hp : A.length ≤ p) (hq : B.length ≤ q) => com_s (p := p) (q := q) C.toSetCore v (HI.out v hv) ra.inl rb.inl NA NB h1 h2 hab (by omega) hp hq)
 have rwo := Kp.mk (fun v (a b : Option Addr) (p q : Nat) (hv : Below w.heap.size w v) (h1 : Lr v a A v) (h2 : Lr v b B v) (hp : A.length ≤ p) (hq : B.length ≤ q) => wo_s (p := p) (q := q) C.toSetCore v (HI.out v hv) ra.inl rb.inl NA NB h1 h2 hab (by omega) hp hq)
 have rp := Kp.mk (fun v (a : Option Addr) (p : Nat) (hv : Below w.heap.size w v) (h1 : Lr v a A v) (hp : A.length ≤ p) => cpl_s (p := p) C.toSetCore v (HI.out v hv) ra.inl NA h1 (ra.chk lA) (by omega) hp)
 have rq := Kp.mk (fun v (n : List Rn) (a : Option Addr) (p : Nat) (hn : IsRs n (fun x => memR [wholeR] x ∧ leftM A x)) (hv : Below w.heap.size w v) (h1 : Lr v a n v) (hp : n.length ≤ p) => (cpl_s (p := p) C.toSetCore v (HI.out v hv) (isrs_in hn) (by have := wo_len hn; simp at this; unfold maxLen; omega) h1 (chk_of hn (by have := wo_len hn; simp at this; omega)) (by have := wo_len hn; simp at this; omega) hp))
 obtain ⟨iv, hiv⟩ : ∃ v, inRs A B = v := ⟨_, rfl⟩
 have ri := Kp.mk (fun v (a b : Option Addr) (p q : Nat) (hv : Below w.heap.size w v) (h1 : Lr v a A v) (h2 : Lr v b B v) (hp : A.length ≤ p) (hq : B.length ≤ q) => C.ins (p := p) (q := q) v (HI.out v hv) ra.inl rb.inl NA NB h1 h2 hab hiv hp hq)
 have rsm := Kp.mk (fun (v : World) (x y : Option Addr) (p q : Nat) (h1 : Lr v x A v) (h2 : Lr v y A v) => same_any (p := p) (q := q) (c := true) NA (decide_eq_true rfl) h1 h2)
 have rh := Kp.mk (fun v (u : List Rn) (x : Option Addr) (p : Nat) (d : Int) (e : Bool) (hv : Below w.heap.size w v) (hi : InL u) (hn : u.length ≤ maxLen) (q : Lr v x u v) (d0 : -9223372036854775808 ≤ d) (d1 : d ≤ 9223372036854775807) (hc : hasRs u d = e) => C.has (p := p) v (HI.out v hv) hi hn q d0 d1 hc)
 have rn := Kp.mk (fun v (x : Option Addr) (p : Nat) (n c : Int) (hv : Below w.heap.size w v) (q : Lr v x A v) (hc : CntR A n c) => C.cnt (p := p) v (HI.out v hv) ra.inl NA q (ra.chk lA) hc)
 have RA := Kp.mk ra
 have RB := Kp.mk rb
 have LA := Kp.mk lA
 have KIV := Kp.mk hiv
 have KU := Kp.mk (fun (u : List Rn) (h : IsRs u (fun x => memR A x ∨ memR B x)) => show u.length ≤ maxLen by have := uni_len h; unfold maxLen; omega)
 have KC := Kp.mk (fun (u : List Rn) (h : IsRs u (fun x => memR A x ∧ memR B x)) => show u.length ≤ maxLen by have := com_len h; unfold maxLen; omega)
 have KW := Kp.mk (fun (u : List Rn) (h : IsRs u (fun x => memR A x ∧ leftM B x)) => show u.length ≤ maxLen by have := wo_len h; unfold maxLen; omega)
 have KN := Kp.mk (fun (u : List Rn) (h : IsRs u (fun x => memR [wholeR] x ∧ leftM A x)) => show u.length ≤ maxLen by have := wo_len h; simp at this; unfold maxLen; omega)
 have KNA := Kp.mk NA
 have KNB := Kp.mk NB
 have HX := Kp.mk (sq_two w x' k y' m (.slice a L.length cap) (.slice b M.length cap2)).1
 have HY := Kp.mk (sq_two w x' k y' m (.slice a L.length cap) (.slice b M.length cap2)).2
 have HP := Kp.mk (hL.step HX.out.below)
 have HQ := Kp.mk (hM.step HX.out.below)
 clear C hI hA hB ra rb lA lB NA NB hab hiv hL hM hbL hbM nL nM k0 m0 bx by'
 go_enter Tryz.func11, Tryz.ntmps11
 go_upto_region 3 with fail
 generalize (w.alloc (.cells #[.int .i16 x', .slice a L.length cap, .int .u8 k] 86)).alloc (.cells #[.int .i16 y', .slice b M.length cap2, .int .u8 m] 86) = w0 at *
 clear hx hy wx wy
 have hbl := (Below.refl w0.heap.size w0).drew
 have HXz := Kp.mk (HX.out.step hbl)
 have HYz := Kp.mk (HY.out.step hbl)
 have HPz := Kp.mk (HP.out.step hbl)
 have HQz := Kp.mk (HQ.out.step hbl)
 obtain ⟨k0z, k1z, k2z⟩ := HXz.out.three
 obtain ⟨k3z, k4z, k5z⟩ := HYz.out.three
 clear hbl
 refine wp_region_held_drew (S := fun w' => w'.cell? ⟨w.heap.size, 0, none⟩ = some (.int .i16 x') ∧ w'.cell? ⟨w.heap.size, 1, none⟩ = some (.slice a L.length cap) ∧ w'.cell? ⟨w.heap.size, 2, none⟩ = some (.int .u8 k) ∧ w'.cell? ⟨w.heap.size + 1, 0, none⟩ = some (.int .i16 y') ∧ w'.cell? ⟨w.heap.size + 1, 1, none⟩ = some (.slice b M.length cap2) ∧ w'.cell? ⟨w.heap.size + 1, 2, none⟩ = some (.int .u8 m)) (by kernel_rfl) ?_ (fun hHeld => ?_)
 ·with_reducible exact ⟨k0z, k1z, k2z, k3z, k4z, k5z⟩
 refine tk 0 ?_ rfl hHeld ?_ ?_
 rotate_left
 ·(intro w hSw; (try dsimp only at hSw); go_simp; try with_reducible rfl)
 try simp only [pt]
 refine tk 2 ?_ rfl hHeld ?_ ?_
 rotate_left
 ·(intro w hSw; (try dsimp only at hSw); go_simp; try with_reducible rfl)
 try simp only [pt]
 refine rd [1] ?_
 refine AllReadyH.cons (dropAt rfl) (fun K hK => ?_) AllReadyH.nil
 go_simp
 go_at_call 66
 with_reducible refine (r1.out _ HPz.out.now).mono ?_
 rintro e y1 ⟨⟨a5, cA, rfl, hrmA, hlr⟩, hb⟩
 have RMA := Kp.mk hrmA
 clear hrmA
 have HX_y1 := Kp.mk (HXz.out.step hb)
 have HY_y1 := Kp.mk (HYz.out.step hb)
 have HP_y1 := Kp.mk (HPz.out.step hb)
 have HQ_y1 := Kp.mk (HQz.out.step hb)
 have HA_y1 := Kp.mk (hlr.from' HXz.out.below)
 clear hlr
 obtain ⟨k0_y1, k1_y1, k2_y1⟩ := HX_y1.out.three
 obtain ⟨k3_y1, k4_y1, k5_y1⟩ := HY_y1.out.three
 clear hHeld k0z k1z k2z k3z k4z k5z HXz HYz HPz HQz hb
 go_wp2_with fail
 refine hK.out _ _ ?_ (fun hHeld => ?_)
 ·with_reducible exact ⟨k0_y1, k1_y1, k2_y1, k3_y1, k4_y1, k5_y1⟩
 clear hK K
 try simp only [pt]
 refine rd [3] ?_
 refine AllReadyH.cons (dropAt rfl) (fun K hK => ?_) AllReadyH.nil
 go_simp
 go_at_call 66
 with_reducible refine (r2.out _ HQ_y1.out.now).mono ?_
 rintro e y2 ⟨⟨b6, cB, rfl, hrmB, hlr⟩, hb⟩
 have RMB := Kp.mk hrmB
 clear hrmB
 have HX_y2 := Kp.mk (HX_y1.out.step hb)
 have HY_y2 := Kp.mk (HY_y1.out.step hb)
 have HP_y2 := Kp.mk (HP_y1.out.step hb)
 have HQ_y2 := Kp.mk (HQ_y1.out.step hb)
 have HA_y2 := Kp.mk (HA_y1.out.step hb)
 have HB_y2 := Kp.mk (hlr.from' HX_y1.out.below)
 clear hlr
 obtain ⟨k0_y2, k1_y2, k2_y2⟩ := HX_y2.out.three
 obtain ⟨k3_y2, k4_y2, k5_y2⟩ := HY_y2.out.three
 clear hHeld k0_y1 k1_y1 k2_y1 k3_y1 k4_y1 k5_y1 HX_y1 HY_y1 HP_y1 HQ_y1 HA_y1 hb
 go_wp2_with fail
 refine hK.out _ _ ?_ (fun hHeld => ?_)
 ·with_reducible exact ⟨k0_y2, k1_y2, k2_y2, k3_y2, k4_y2, k5_y2⟩
 clear hK K
 try simp only [pt]
 refine tk 4 ?_ rfl hHeld ?_ ?_
 rotate_left
 ·(intro w hSw; (try dsimp only at hSw); go_simp; try with_reducible rfl)
 try simp only [pt]
 refine tk 5 ?_ rfl hHeld ?_ ?_
 rotate_left
 ·(intro w hSw; (try dsimp only at hSw); go_simp; try with_reducible rfl)
 try simp only [pt]
 refine wpAnyH_done (by kernel_rfl) ?_ _
 clear hHeld
 have HX := HX_y2
 have HY := HY_y2
 have HP := HP_y2
 have HQ := HQ_y2
 have HA := HA_y2
 have HB := HB_y2
 clear k0_y2 k1_y2 k2_y2 k3_y2 k4_y2 k5_y2
 clear HX HY HP HQ r1 r2
 go_wp2_with fail
 refine (ru.out _ _ _ _ _ HA.out.below HA.out.now HB.out.now (by first | exact RMA.out | exact RMB.out | exact Nat.le_refl _ | omega) (by first | exact RMA.out | exact RMB.out | exact Nat.le_refl _ | omega)).mono ?_
 rintro e v1 ⟨⟨u, b1, hu, rfl, hlr⟩, hb⟩
 have G1 := Kp.mk (hlr.from' HA.out.below)
 have SU := Kp.mk hu
 clear hlr hu ru
 have HA := Kp.mk (HA.out.step hb)
 have HB := Kp.mk (HB.out.step hb)
 clear hb
 go_wp2_with fail
 refine (rc.out _ _ _ _ _ HA.out.below HA.out.now HB.out.now (by first | exact RMA.out | exact RMB.out | exact Nat.le_refl _ | omega) (by first | exact RMA.out | exact RMB.out | exact Nat.le_refl _ | omega)).mono ?_
 rintro e v2 ⟨⟨c, b2, hu, rfl, hlr⟩, hb⟩
 have G2 := Kp.mk (hlr.from' HA.out.below)
 have SC0 := Kp.mk hu
 clear hlr hu rc
 have HA := Kp.mk (HA.out.step hb)
 have HB := Kp.mk (HB.out.step hb)
 have G1 := Kp.mk (G1.out.step hb)
 clear hb
 go_wp2_with fail
 refine (rwo.out _ _ _ _ _ HA.out.below HA.out.now HB.out.now (by first | exact RMA.out | exact RMB.out | exact Nat.le_refl _ | omega) (by first | exact RMA.out | exact RMB.out | exact Nat.le_refl _ | omega)).mono ?_
 rintro e v3 ⟨⟨z, b3, hu, rfl, hlr⟩, hb⟩
 have G3 := Kp.mk (hlr.from' HA.out.below)
 have SW := Kp.mk hu
 clear hlr hu rwo
 have HA := Kp.mk (HA.out.step hb)
 have HB := Kp.mk (HB.out.step hb)
 have G1 := Kp.mk (G1.out.step hb)
 have G2 := Kp.mk (G2.out.step hb)
 clear hb
 go_wp2_with fail
 refine (rp.out _ _ _ HA.out.below HA.out.now (by first | exact RMA.out | exact RMB.out | exact Nat.le_refl _ | omega)).mono ?_
 rintro e v4 ⟨⟨n, b4, hu, rfl, hlr⟩, hb⟩
 have G4 := Kp.mk (hlr.from' HA.out.below)
 have SN := Kp.mk hu
 clear hlr hu rp
 have HA := Kp.mk (HA.out.step hb)
 have HB := Kp.mk (HB.out.step hb)
 have G1 := Kp.mk (G1.out.step hb)
 have G2 := Kp.mk (G2.out.step hb)
 have G3 := Kp.mk (G3.out.step hb)
 clear hb
 go_wp2_with fail
 refine (rq.out _ n _ _ SN.out HA.out.below G4.out.now (by first | exact RMA.out | exact RMB.out | exact Nat.le_refl _ | omega)).mono ?_
 rintro e v5 ⟨⟨z5, b5, hu, rfl, hlr⟩, hb⟩
 have em : A = z5 := sets_one hu (twice RA.out SN.out)
 subst em
 have G5 := Kp.mk (hlr.from' HA.out.below)
 clear hlr hu rq
 have HA := Kp.mk (HA.out.step hb)
 have HB := Kp.mk (HB.out.step hb)
 have G1 := Kp.mk (G1.out.step hb)
 have G2 := Kp.mk (G2.out.step hb)
 have G3 := Kp.mk (G3.out.step hb)
 have G4 := Kp.mk (G4.out.step hb)
 clear hb
 go_wp2_with fail
 refine (ri.out _ _ _ _ _ HA.out.below HA.out.now HB.out.now (by first | exact RMA.out | exact RMB.out | exact Nat.le_refl _ | omega) (by first | exact RMA.out | exact RMB.out | exact Nat.le_refl _ | omega)).mono ?_
 rintro e v6 ⟨rfl, hb⟩
 have HA := Kp.mk (HA.out.step hb)
 have HB := Kp.mk (HB.out.step hb)
 have G1 := Kp.mk (G1.out.step hb)
 have G2 := Kp.mk (G2.out.step hb)
 have G3 := Kp.mk (G3.out.step hb)
 have G4 := Kp.mk (G4.out.step hb)
 have G5 := Kp.mk (G5.out.step hb)
 clear hb ri
 go_wp2_with fail
 refine (rsm.out _ _ _ _ _ G5.out.now HA.out.now).mono ?_
 rintro e v7 ⟨rfl, hb⟩
 have HA := Kp.mk (HA.out.step hb)
 have HB := Kp.mk (HB.out.step hb)
 have G1 := Kp.mk (G1.out.step hb)
 have G2 := Kp.mk (G2.out.step hb)
 have G3 := Kp.mk (G3.out.step hb)
 have G4 := Kp.mk (G4.out.step hb)
 have G5 := Kp.mk (G5.out.step hb)
 clear hb rsm
 clear G5
 go_wp2_with fail
 go_loopw [19, 20, 21, 22, 23] (fun days out day _ _ wr => ∃ j : Nat, j ≤ 321 ∧ days = .int .i64 (cntD (fun x => hasRs A x) j) ∧ out = .bool (outD (fun x => hasRs A x && !hasRs B x) j) ∧ day = .int .i64 (-60 + (j : Int)) ∧ Kp (Lr w a5 A wr) ∧ Kp (Lr w b6 B wr) ∧ Kp (Lr w b1 u wr) ∧ Kp (Lr w b2 c wr) ∧ Kp (Lr w b3 z wr) ∧ Kp (Lr w b4 n wr)) (fun _ _ i _ _ _ => (261 - intOf i).toNat)
 case atStart => exact ⟨0, by omega, rfl, rfl, rfl, HA, HB, G1, G2, G3, G4⟩
 case round =>
  clear HA HB G1 G2 G3 G4
  obtain ⟨j, hj, rfl, rfl, rfl, HA, HB, G1, G2, G3, G4⟩ := hrel
  by_cases hlt : j < 321
  ·obtain ⟨d, hd⟩ : ∃ d : Int, -60 + (j : Int) = d := ⟨_, rfl⟩
   obtain ⟨d2, hd2⟩ : ∃ d : Int, -60 + (j : Int) + 1 = d := ⟨_, rfl⟩
   have d0 : -9223372036854775808 ≤ d := by omega
   have d1 : d ≤ 9223372036854775807 := by omega
   obtain ⟨vo, hvo⟩ : ∃ v, outD (fun x => hasRs A x && !hasRs B x) j = v := ⟨_, rfl⟩
   obtain ⟨cd, hcd⟩ : ∃ v, cntD (fun x => hasRs A x) j = v := ⟨_, rfl⟩
   have bd := cntD_bd (p := (fun x => hasRs A x)) j
   rw [hcd] at bd
   obtain ⟨p, hp⟩ : ∃ v, hasRs A d = v := ⟨_, rfl⟩
   obtain ⟨q, hq⟩ : ∃ v, hasRs B d = v := ⟨_, rfl⟩
   have SO := Kp.mk (show outD (fun x => hasRs A x && !hasRs B x) (j + 1) = (vo || (p && !q)) by rw [← hvo, ← hp, ← hq, ← hd]; rfl)
   have SC := Kp.mk (show cntD (fun x => hasRs A x) (j + 1) = cd + (if p = true then 1 else 0) by rw [← hcd, ← hp, ← hd]; rfl)
   have EA := Kp.mk hp
   have EB := Kp.mk hq
   have EU := Kp.mk (show hasRs u d = (p || q) by rw [uni_has RA.out.inl RB.out.inl RA.out.can RB.out.can SU.out, hp, hq])
   have EC := Kp.mk (show hasRs c d = (p && q) by rw [com_has RA.out.inl RB.out.inl RA.out.can RB.out.can SC0.out, hp, hq])
   have EW := Kp.mk (show hasRs z d = (p && !q) by rw [wo_has RA.out.inl RB.out.inl RA.out.can RB.out.can SW.out d0 d1, hp, hq])
   have EN := Kp.mk (show hasRs n d = !p by rw [cpl_has RA.out.inl RA.out.can SN.out d0 d1, hp])
   have tl : d ≤ 260 := by omega
   have w2 : IntKind.i64.wrap (d + 1) = d2 := by rw [show d + 1 = d2 by omega]; exact IntWalk.i64_in _ (by omega)
   have wc : IntKind.i64.wrap (cd + 1) = cd + 1 := IntWalk.i64_in _ (by omega)
   have HD := Kp.mk (show d2 = -60 + ((j + 1 : Nat) : Int) ∧ (261 - d2).toNat < (261 - d).toNat by omega)
   rw [hvo, hcd, hd]
   clear hd hd2 hvo hcd hp hq bd
   cases p
   ·cases q
    ·cases vo
     ·go_wp2_with fail
      refine (rh.out _ A _ _ _ _ HA.out.below RA.out.inl KNA.out HA.out.now d0 d1 EA.out).mono ?_
      rintro e v1 ⟨rfl, hb⟩
      have HA := Kp.mk (HA.out.step hb)
      have HB := Kp.mk (HB.out.step hb)
      have G1 := Kp.mk (G1.out.step hb)
      have G2 := Kp.mk (G2.out.step hb)
      have G3 := Kp.mk (G3.out.step hb)
      have G4 := Kp.mk (G4.out.step hb)
      clear hb
      go_wp2_with fail
      refine (rh.out _ B _ _ _ _ HA.out.below RB.out.inl KNB.out HB.out.now d0 d1 EB.out).mono ?_
      rintro e v2 ⟨rfl, hb⟩
      have HA := Kp.mk (HA.out.step hb)
      have HB := Kp.mk (HB.out.step hb)
      have G1 := Kp.mk (G1.out.step hb)
      have G2 := Kp.mk (G2.out.step hb)
      have G3 := Kp.mk (G3.out.step hb)
      have G4 := Kp.mk (G4.out.step hb)
      clear hb
      go_wp2_with fail
      refine (rh.out _ u _ _ _ _ HA.out.below (isrs_in SU.out) (KU.out _ SU.out) G1.out.now d0 d1 EU.out).mono ?_
      rintro e v3 ⟨rfl, hb⟩
      have HA := Kp.mk (HA.out.step hb)
      have HB := Kp.mk (HB.out.step hb)
      have G1 := Kp.mk (G1.out.step hb)
      have G2 := Kp.mk (G2.out.step hb)
      have G3 := Kp.mk (G3.out.step hb)
      have G4 := Kp.mk (G4.out.step hb)
      clear hb
      go_wp2_with fail
      refine (rh.out _ c _ _ _ _ HA.out.below (isrs_in SC0.out) (KC.out _ SC0.out) G2.out.now d0 d1 EC.out).mono ?_
      rintro e v4 ⟨rfl, hb⟩
      have HA := Kp.mk (HA.out.step hb)
      have HB := Kp.mk (HB.out.step hb)
      have G1 := Kp.mk (G1.out.step hb)
      have G2 := Kp.mk (G2.out.step hb)
      have G3 := Kp.mk (G3.out.step hb)
      have G4 := Kp.mk (G4.out.step hb)
      clear hb
      go_wp2_with fail
      refine (rh.out _ z _ _ _ _ HA.out.below (isrs_in SW.out) (KW.out _ SW.out) G3.out.now d0 d1 EW.out).mono ?_
      rintro e v5 ⟨rfl, hb⟩
      have HA := Kp.mk (HA.out.step hb)
      have HB := Kp.mk (HB.out.step hb)
      have G1 := Kp.mk (G1.out.step hb)
      have G2 := Kp.mk (G2.out.step hb)
      have G3 := Kp.mk (G3.out.step hb)
      have G4 := Kp.mk (G4.out.step hb)
      clear hb
      go_wp2_with fail
      refine (rh.out _ n _ _ _ _ HA.out.below (isrs_in SN.out) (KN.out _ SN.out) G4.out.now d0 d1 EN.out).mono ?_
      rintro e v6 ⟨rfl, hb⟩
      have HA := Kp.mk (HA.out.step hb)
      have HB := Kp.mk (HB.out.step hb)
      have G1 := Kp.mk (G1.out.step hb)
      have G2 := Kp.mk (G2.out.step hb)
      have G3 := Kp.mk (G3.out.step hb)
      have G4 := Kp.mk (G4.out.step hb)
      clear hb
      go_wp2_with fail
      go_roundw
      case rel => exact ⟨j + 1, by omega, by rw [SC.out]; simp, by rw [SO.out]; rfl, by rw [HD.out.1], HA, HB, G1, G2, G3, G4⟩
      case measure => simp only [intOf]; exact HD.out.2
     ·go_wp2_with fail
      refine (rh.out _ A _ _ _ _ HA.out.below RA.out.inl KNA.out HA.out.now d0 d1 EA.out).mono ?_
      rintro e v1 ⟨rfl, hb⟩
      have HA := Kp.mk (HA.out.step hb)
      have HB := Kp.mk (HB.out.step hb)
      have G1 := Kp.mk (G1.out.step hb)
      have G2 := Kp.mk (G2.out.step hb)
      have G3 := Kp.mk (G3.out.step hb)
      have G4 := Kp.mk (G4.out.step hb)
      clear hb
      go_wp2_with fail
      refine (rh.out _ B _ _ _ _ HA.out.below RB.out.inl KNB.out HB.out.now d0 d1 EB.out).mono ?_
      rintro e v2 ⟨rfl, hb⟩
      have HA := Kp.mk (HA.out.step hb)
      have HB := Kp.mk (HB.out.step hb)
      have G1 := Kp.mk (G1.out.step hb)
      have G2 := Kp.mk (G2.out.step hb)
      have G3 := Kp.mk (G3.out.step hb)
      have G4 := Kp.mk (G4.out.step hb)
      clear hb
      go_wp2_with fail
      refine (rh.out _ u _ _ _ _ HA.out.below (isrs_in SU.out) (KU.out _ SU.out) G1.out.now d0 d1 EU.out).mono ?_
      rintro e v3 ⟨rfl, hb⟩
      have HA := Kp.mk (HA.out.step hb)
      have HB := Kp.mk (HB.out.step hb)
      have G1 := Kp.mk (G1.out.step hb)
      have G2 := Kp.mk (G2.out.step hb)
      have G3 := Kp.mk (G3.out.step hb)
      have G4 := Kp.mk (G4.out.step hb)
      clear hb
      go_wp2_with fail
      refine (rh.out _ c _ _ _ _ HA.out.below (isrs_in SC0.out) (KC.out _ SC0.out) G2.out.now d0 d1 EC.out).mono ?_
      rintro e v4 ⟨rfl, hb⟩
      have HA := Kp.mk (HA.out.step hb)
      have HB := Kp.mk (HB.out.step hb)
      have G1 := Kp.mk (G1.out.step hb)
      have G2 := Kp.mk (G2.out.step hb)
      have G3 := Kp.mk (G3.out.step hb)
      have G4 := Kp.mk (G4.out.step hb)
      clear hb
      go_wp2_with fail
      refine (rh.out _ z _ _ _ _ HA.out.below (isrs_in SW.out) (KW.out _ SW.out) G3.out.now d0 d1 EW.out).mono ?_
      rintro e v5 ⟨rfl, hb⟩
      have HA := Kp.mk (HA.out.step hb)
      have HB := Kp.mk (HB.out.step hb)
      have G1 := Kp.mk (G1.out.step hb)
      have G2 := Kp.mk (G2.out.step hb)
      have G3 := Kp.mk (G3.out.step hb)
      have G4 := Kp.mk (G4.out.step hb)
      clear hb
      go_wp2_with fail
      refine (rh.out _ n _ _ _ _ HA.out.below (isrs_in SN.out) (KN.out _ SN.out) G4.out.now d0 d1 EN.out).mono ?_
      rintro e v6 ⟨rfl, hb⟩
      have HA := Kp.mk (HA.out.step hb)
      have HB := Kp.mk (HB.out.step hb)
      have G1 := Kp.mk (G1.out.step hb)
      have G2 := Kp.mk (G2.out.step hb)
      have G3 := Kp.mk (G3.out.step hb)
      have G4 := Kp.mk (G4.out.step hb)
      clear hb
      go_wp2_with fail
      go_roundw
      case rel => exact ⟨j + 1, by omega, by rw [SC.out]; simp, by rw [SO.out]; rfl, by rw [HD.out.1], HA, HB, G1, G2, G3, G4⟩
      case measure => simp only [intOf]; exact HD.out.2
    ·cases vo
     ·go_wp2_with fail
      refine (rh.out _ A _ _ _ _ HA.out.below RA.out.inl KNA.out HA.out.now d0 d1 EA.out).mono ?_
      rintro e v1 ⟨rfl, hb⟩
      have HA := Kp.mk (HA.out.step hb)
      have HB := Kp.mk (HB.out.step hb)
      have G1 := Kp.mk (G1.out.step hb)
      have G2 := Kp.mk (G2.out.step hb)
      have G3 := Kp.mk (G3.out.step hb)
      have G4 := Kp.mk (G4.out.step hb)
      clear hb
      go_wp2_with fail
      refine (rh.out _ B _ _ _ _ HA.out.below RB.out.inl KNB.out HB.out.now d0 d1 EB.out).mono ?_
      rintro e v2 ⟨rfl, hb⟩
      have HA := Kp.mk (HA.out.step hb)
      have HB := Kp.mk (HB.out.step hb)
      have G1 := Kp.mk (G1.out.step hb)
      have G2 := Kp.mk (G2.out.step hb)
      have G3 := Kp.mk (G3.out.step hb)
      have G4 := Kp.mk (G4.out.step hb)
      clear hb
      go_wp2_with fail
      refine (rh.out _ u _ _ _ _ HA.out.below (isrs_in SU.out) (KU.out _ SU.out) G1.out.now d0 d1 EU.out).mono ?_
      rintro e v3 ⟨rfl, hb⟩
      have HA := Kp.mk (HA.out.step hb)
      have HB := Kp.mk (HB.out.step hb)
      have G1 := Kp.mk (G1.out.step hb)
      have G2 := Kp.mk (G2.out.step hb)
      have G3 := Kp.mk (G3.out.step hb)
      have G4 := Kp.mk (G4.out.step hb)
      clear hb
      go_wp2_with fail
      refine (rh.out _ c _ _ _ _ HA.out.below (isrs_in SC0.out) (KC.out _ SC0.out) G2.out.now d0 d1 EC.out).mono ?_
      rintro e v4 ⟨rfl, hb⟩
      have HA := Kp.mk (HA.out.step hb)
      have HB := Kp.mk (HB.out.step hb)
      have G1 := Kp.mk (G1.out.step hb)
      have G2 := Kp.mk (G2.out.step hb)
      have G3 := Kp.mk (G3.out.step hb)
      have G4 := Kp.mk (G4.out.step hb)
      clear hb
      go_wp2_with fail
      refine (rh.out _ z _ _ _ _ HA.out.below (isrs_in SW.out) (KW.out _ SW.out) G3.out.now d0 d1 EW.out).mono ?_
      rintro e v5 ⟨rfl, hb⟩
      have HA := Kp.mk (HA.out.step hb)
      have HB := Kp.mk (HB.out.step hb)
      have G1 := Kp.mk (G1.out.step hb)
      have G2 := Kp.mk (G2.out.step hb)
      have G3 := Kp.mk (G3.out.step hb)
      have G4 := Kp.mk (G4.out.step hb)
      clear hb
      go_wp2_with fail
      refine (rh.out _ n _ _ _ _ HA.out.below (isrs_in SN.out) (KN.out _ SN.out) G4.out.now d0 d1 EN.out).mono ?_
      rintro e v6 ⟨rfl, hb⟩
      have HA := Kp.mk (HA.out.step hb)
      have HB := Kp.mk (HB.out.step hb)
      have G1 := Kp.mk (G1.out.step hb)
      have G2 := Kp.mk (G2.out.step hb)
      have G3 := Kp.mk (G3.out.step hb)
      have G4 := Kp.mk (G4.out.step hb)
      clear hb
      go_wp2_with fail
      go_roundw
      case rel => exact ⟨j + 1, by omega, by rw [SC.out]; simp, by rw [SO.out]; rfl, by rw [HD.out.1], HA, HB, G1, G2, G3, G4⟩
      case measure => simp only [intOf]; exact HD.out.2
     ·go_wp2_with fail
      refine (rh.out _ A _ _ _ _ HA.out.below RA.out.inl KNA.out HA.out.now d0 d1 EA.out).mono ?_
      rintro e v1 ⟨rfl, hb⟩
      have HA := Kp.mk (HA.out.step hb)
      have HB := Kp.mk (HB.out.step hb)
      have G1 := Kp.mk (G1.out.step hb)
      have G2 := Kp.mk (G2.out.step hb)
      have G3 := Kp.mk (G3.out.step hb)
      have G4 := Kp.mk (G4.out.step hb)
      clear hb
      go_wp2_with fail
      refine (rh.out _ B _ _ _ _ HA.out.below RB.out.inl KNB.out HB.out.now d0 d1 EB.out).mono ?_
      rintro e v2 ⟨rfl, hb⟩
      have HA := Kp.mk (HA.out.step hb)
      have HB := Kp.mk (HB.out.step hb)
      have G1 := Kp.mk (G1.out.step hb)
      have G2 := Kp.mk (G2.out.step hb)
      have G3 := Kp.mk (G3.out.step hb)
      have G4 := Kp.mk (G4.out.step hb)
      clear hb
      go_wp2_with fail
      refine (rh.out _ u _ _ _ _ HA.out.below (isrs_in SU.out) (KU.out _ SU.out) G1.out.now d0 d1 EU.out).mono ?_
      rintro e v3 ⟨rfl, hb⟩
      have HA := Kp.mk (HA.out.step hb)
      have HB := Kp.mk (HB.out.step hb)
      have G1 := Kp.mk (G1.out.step hb)
      have G2 := Kp.mk (G2.out.step hb)
      have G3 := Kp.mk (G3.out.step hb)
      have G4 := Kp.mk (G4.out.step hb)
      clear hb
      go_wp2_with fail
      refine (rh.out _ c _ _ _ _ HA.out.below (isrs_in SC0.out) (KC.out _ SC0.out) G2.out.now d0 d1 EC.out).mono ?_
      rintro e v4 ⟨rfl, hb⟩
      have HA := Kp.mk (HA.out.step hb)
      have HB := Kp.mk (HB.out.step hb)
      have G1 := Kp.mk (G1.out.step hb)
      have G2 := Kp.mk (G2.out.step hb)
      have G3 := Kp.mk (G3.out.step hb)
      have G4 := Kp.mk (G4.out.step hb)
      clear hb
      go_wp2_with fail
      refine (rh.out _ z _ _ _ _ HA.out.below (isrs_in SW.out) (KW.out _ SW.out) G3.out.now d0 d1 EW.out).mono ?_
      rintro e v5 ⟨rfl, hb⟩
      have HA := Kp.mk (HA.out.step hb)
      have HB := Kp.mk (HB.out.step hb)
      have G1 := Kp.mk (G1.out.step hb)
      have G2 := Kp.mk (G2.out.step hb)
      have G3 := Kp.mk (G3.out.step hb)
      have G4 := Kp.mk (G4.out.step hb)
      clear hb
      go_wp2_with fail
      refine (rh.out _ n _ _ _ _ HA.out.below (isrs_in SN.out) (KN.out _ SN.out) G4.out.now d0 d1 EN.out).mono ?_
      rintro e v6 ⟨rfl, hb⟩
      have HA := Kp.mk (HA.out.step hb)
      have HB := Kp.mk (HB.out.step hb)
      have G1 := Kp.mk (G1.out.step hb)
      have G2 := Kp.mk (G2.out.step hb)
      have G3 := Kp.mk (G3.out.step hb)
      have G4 := Kp.mk (G4.out.step hb)
      clear hb
      go_wp2_with fail
      go_roundw
      case rel => exact ⟨j + 1, by omega, by rw [SC.out]; simp, by rw [SO.out]; rfl, by rw [HD.out.1], HA, HB, G1, G2, G3, G4⟩
      case measure => simp only [intOf]; exact HD.out.2
   ·cases q
    ·cases vo
     ·go_wp2_with fail
      refine (rh.out _ A _ _ _ _ HA.out.below RA.out.inl KNA.out HA.out.now d0 d1 EA.out).mono ?_
      rintro e v1 ⟨rfl, hb⟩
      have HA := Kp.mk (HA.out.step hb)
      have HB := Kp.mk (HB.out.step hb)
      have G1 := Kp.mk (G1.out.step hb)
      have G2 := Kp.mk (G2.out.step hb)
      have G3 := Kp.mk (G3.out.step hb)
      have G4 := Kp.mk (G4.out.step hb)
      clear hb
      go_wp2_with fail
      refine (rh.out _ B _ _ _ _ HA.out.below RB.out.inl KNB.out HB.out.now d0 d1 EB.out).mono ?_
      rintro e v2 ⟨rfl, hb⟩
      have HA := Kp.mk (HA.out.step hb)
      have HB := Kp.mk (HB.out.step hb)
      have G1 := Kp.mk (G1.out.step hb)
      have G2 := Kp.mk (G2.out.step hb)
      have G3 := Kp.mk (G3.out.step hb)
      have G4 := Kp.mk (G4.out.step hb)
      clear hb
      go_wp2_with fail
      refine (rh.out _ u _ _ _ _ HA.out.below (isrs_in SU.out) (KU.out _ SU.out) G1.out.now d0 d1 EU.out).mono ?_
      rintro e v3 ⟨rfl, hb⟩
      have HA := Kp.mk (HA.out.step hb)
      have HB := Kp.mk (HB.out.step hb)
      have G1 := Kp.mk (G1.out.step hb)
      have G2 := Kp.mk (G2.out.step hb)
      have G3 := Kp.mk (G3.out.step hb)
      have G4 := Kp.mk (G4.out.step hb)
      clear hb
      go_wp2_with fail
      refine (rh.out _ c _ _ _ _ HA.out.below (isrs_in SC0.out) (KC.out _ SC0.out) G2.out.now d0 d1 EC.out).mono ?_
      rintro e v4 ⟨rfl, hb⟩
      have HA := Kp.mk (HA.out.step hb)
      have HB := Kp.mk (HB.out.step hb)
      have G1 := Kp.mk (G1.out.step hb)
      have G2 := Kp.mk (G2.out.step hb)
      have G3 := Kp.mk (G3.out.step hb)
      have G4 := Kp.mk (G4.out.step hb)
      clear hb
      go_wp2_with fail
      refine (rh.out _ z _ _ _ _ HA.out.below (isrs_in SW.out) (KW.out _ SW.out) G3.out.now d0 d1 EW.out).mono ?_
      rintro e v5 ⟨rfl, hb⟩
      have HA := Kp.mk (HA.out.step hb)
      have HB := Kp.mk (HB.out.step hb)
      have G1 := Kp.mk (G1.out.step hb)
      have G2 := Kp.mk (G2.out.step hb)
      have G3 := Kp.mk (G3.out.step hb)
      have G4 := Kp.mk (G4.out.step hb)
      clear hb
      go_wp2_with fail
      refine (rh.out _ n _ _ _ _ HA.out.below (isrs_in SN.out) (KN.out _ SN.out) G4.out.now d0 d1 EN.out).mono ?_
      rintro e v6 ⟨rfl, hb⟩
      have HA := Kp.mk (HA.out.step hb)
      have HB := Kp.mk (HB.out.step hb)
      have G1 := Kp.mk (G1.out.step hb)
      have G2 := Kp.mk (G2.out.step hb)
      have G3 := Kp.mk (G3.out.step hb)
      have G4 := Kp.mk (G4.out.step hb)
      clear hb
      go_wp2_with fail
      go_roundw
      case rel => exact ⟨j + 1, by omega, by rw [SC.out]; rfl, by rw [SO.out]; rfl, by rw [HD.out.1], HA, HB, G1, G2, G3, G4⟩
      case measure => simp only [intOf]; exact HD.out.2
     ·go_wp2_with fail
      refine (rh.out _ A _ _ _ _ HA.out.below RA.out.inl KNA.out HA.out.now d0 d1 EA.out).mono ?_
      rintro e v1 ⟨rfl, hb⟩
      have HA := Kp.mk (HA.out.step hb)
      have HB := Kp.mk (HB.out.step hb)
      have G1 := Kp.mk (G1.out.step hb)
      have G2 := Kp.mk (G2.out.step hb)
      have G3 := Kp.mk (G3.out.step hb)
      have G4 := Kp.mk (G4.out.step hb)
      clear hb
      go_wp2_with fail
      refine (rh.out _ B _ _ _ _ HA.out.below RB.out.inl KNB.out HB.out.now d0 d1 EB.out).mono ?_
      rintro e v2 ⟨rfl, hb⟩
      have HA := Kp.mk (HA.out.step hb)
      have HB := Kp.mk (HB.out.step hb)
      have G1 := Kp.mk (G1.out.step hb)
      have G2 := Kp.mk (G2.out.step hb)
      have G3 := Kp.mk (G3.out.step hb)
      have G4 := Kp.mk (G4.out.step hb)
      clear hb
      go_wp2_with fail
      refine (rh.out _ u _ _ _ _ HA.out.below (isrs_in SU.out) (KU.out _ SU.out) G1.out.now d0 d1 EU.out).mono ?_
      rintro e v3 ⟨rfl, hb⟩
      have HA := Kp.mk (HA.out.step hb)
      have HB := Kp.mk (HB.out.step hb)
      have G1 := Kp.mk (G1.out.step hb)
      have G2 := Kp.mk (G2.out.step hb)
      have G3 := Kp.mk (G3.out.step hb)
      have G4 := Kp.mk (G4.out.step hb)
      clear hb
      go_wp2_with fail
      refine (rh.out _ c _ _ _ _ HA.out.below (isrs_in SC0.out) (KC.out _ SC0.out) G2.out.now d0 d1 EC.out).mono ?_
      rintro e v4 ⟨rfl, hb⟩
      have HA := Kp.mk (HA.out.step hb)
      have HB := Kp.mk (HB.out.step hb)
      have G1 := Kp.mk (G1.out.step hb)
      have G2 := Kp.mk (G2.out.step hb)
      have G3 := Kp.mk (G3.out.step hb)
      have G4 := Kp.mk (G4.out.step hb)
      clear hb
      go_wp2_with fail
      refine (rh.out _ z _ _ _ _ HA.out.below (isrs_in SW.out) (KW.out _ SW.out) G3.out.now d0 d1 EW.out).mono ?_
      rintro e v5 ⟨rfl, hb⟩
      have HA := Kp.mk (HA.out.step hb)
      have HB := Kp.mk (HB.out.step hb)
      have G1 := Kp.mk (G1.out.step hb)
      have G2 := Kp.mk (G2.out.step hb)
      have G3 := Kp.mk (G3.out.step hb)
      have G4 := Kp.mk (G4.out.step hb)
      clear hb
      go_wp2_with fail
      refine (rh.out _ n _ _ _ _ HA.out.below (isrs_in SN.out) (KN.out _ SN.out) G4.out.now d0 d1 EN.out).mono ?_
      rintro e v6 ⟨rfl, hb⟩
      have HA := Kp.mk (HA.out.step hb)
      have HB := Kp.mk (HB.out.step hb)
      have G1 := Kp.mk (G1.out.step hb)
      have G2 := Kp.mk (G2.out.step hb)
      have G3 := Kp.mk (G3.out.step hb)
      have G4 := Kp.mk (G4.out.step hb)
      clear hb
      go_wp2_with fail
      go_roundw
      case rel => exact ⟨j + 1, by omega, by rw [SC.out]; rfl, by rw [SO.out]; rfl, by rw [HD.out.1], HA, HB, G1, G2, G3, G4⟩
      case measure => simp only [intOf]; exact HD.out.2
    ·cases vo
     ·go_wp2_with fail
      refine (rh.out _ A _ _ _ _ HA.out.below RA.out.inl KNA.out HA.out.now d0 d1 EA.out).mono ?_
      rintro e v1 ⟨rfl, hb⟩
      have HA := Kp.mk (HA.out.step hb)
      have HB := Kp.mk (HB.out.step hb)
      have G1 := Kp.mk (G1.out.step hb)
      have G2 := Kp.mk (G2.out.step hb)
      have G3 := Kp.mk (G3.out.step hb)
      have G4 := Kp.mk (G4.out.step hb)
      clear hb
      go_wp2_with fail
      refine (rh.out _ B _ _ _ _ HA.out.below RB.out.inl KNB.out HB.out.now d0 d1 EB.out).mono ?_
      rintro e v2 ⟨rfl, hb⟩
      have HA := Kp.mk (HA.out.step hb)
      have HB := Kp.mk (HB.out.step hb)
      have G1 := Kp.mk (G1.out.step hb)
      have G2 := Kp.mk (G2.out.step hb)
      have G3 := Kp.mk (G3.out.step hb)
      have G4 := Kp.mk (G4.out.step hb)
      clear hb
      go_wp2_with fail
      refine (rh.out _ u _ _ _ _ HA.out.below (isrs_in SU.out) (KU.out _ SU.out) G1.out.now d0 d1 EU.out).mono ?_
      rintro e v3 ⟨rfl, hb⟩
      have HA := Kp.mk (HA.out.step hb)
      have HB := Kp.mk (HB.out.step hb)
      have G1 := Kp.mk (G1.out.step hb)
      have G2 := Kp.mk (G2.out.step hb)
      have G3 := Kp.mk (G3.out.step hb)
      have G4 := Kp.mk (G4.out.step hb)
      clear hb
      go_wp2_with fail
      refine (rh.out _ c _ _ _ _ HA.out.below (isrs_in SC0.out) (KC.out _ SC0.out) G2.out.now d0 d1 EC.out).mono ?_
      rintro e v4 ⟨rfl, hb⟩
      have HA := Kp.mk (HA.out.step hb)
      have HB := Kp.mk (HB.out.step hb)
      have G1 := Kp.mk (G1.out.step hb)
      have G2 := Kp.mk (G2.out.step hb)
      have G3 := Kp.mk (G3.out.step hb)
      have G4 := Kp.mk (G4.out.step hb)
      clear hb
      go_wp2_with fail
      refine (rh.out _ z _ _ _ _ HA.out.below (isrs_in SW.out) (KW.out _ SW.out) G3.out.now d0 d1 EW.out).mono ?_
      rintro e v5 ⟨rfl, hb⟩
      have HA := Kp.mk (HA.out.step hb)
      have HB := Kp.mk (HB.out.step hb)
      have G1 := Kp.mk (G1.out.step hb)
      have G2 := Kp.mk (G2.out.step hb)
      have G3 := Kp.mk (G3.out.step hb)
      have G4 := Kp.mk (G4.out.step hb)
      clear hb
      go_wp2_with fail
      refine (rh.out _ n _ _ _ _ HA.out.below (isrs_in SN.out) (KN.out _ SN.out) G4.out.now d0 d1 EN.out).mono ?_
      rintro e v6 ⟨rfl, hb⟩
      have HA := Kp.mk (HA.out.step hb)
      have HB := Kp.mk (HB.out.step hb)
      have G1 := Kp.mk (G1.out.step hb)
      have G2 := Kp.mk (G2.out.step hb)
      have G3 := Kp.mk (G3.out.step hb)
      have G4 := Kp.mk (G4.out.step hb)
      clear hb
      go_wp2_with fail
      go_roundw
      case rel => exact ⟨j + 1, by omega, by rw [SC.out]; rfl, by rw [SO.out]; rfl, by rw [HD.out.1], HA, HB, G1, G2, G3, G4⟩
      case measure => simp only [intOf]; exact HD.out.2
     ·go_wp2_with fail
      refine (rh.out _ A _ _ _ _ HA.out.below RA.out.inl KNA.out HA.out.now d0 d1 EA.out).mono ?_
      rintro e v1 ⟨rfl, hb⟩
      have HA := Kp.mk (HA.out.step hb)
      have HB := Kp.mk (HB.out.step hb)
      have G1 := Kp.mk (G1.out.step hb)
      have G2 := Kp.mk (G2.out.step hb)
      have G3 := Kp.mk (G3.out.step hb)
      have G4 := Kp.mk (G4.out.step hb)
      clear hb
      go_wp2_with fail
      refine (rh.out _ B _ _ _ _ HA.out.below RB.out.inl KNB.out HB.out.now d0 d1 EB.out).mono ?_
      rintro e v2 ⟨rfl, hb⟩
      have HA := Kp.mk (HA.out.step hb)
      have HB := Kp.mk (HB.out.step hb)
      have G1 := Kp.mk (G1.out.step hb)
      have G2 := Kp.mk (G2.out.step hb)
      have G3 := Kp.mk (G3.out.step hb)
      have G4 := Kp.mk (G4.out.step hb)
      clear hb
      go_wp2_with fail
      refine (rh.out _ u _ _ _ _ HA.out.below (isrs_in SU.out) (KU.out _ SU.out) G1.out.now d0 d1 EU.out).mono ?_
      rintro e v3 ⟨rfl, hb⟩
      have HA := Kp.mk (HA.out.step hb)
      have HB := Kp.mk (HB.out.step hb)
      have G1 := Kp.mk (G1.out.step hb)
      have G2 := Kp.mk (G2.out.step hb)
      have G3 := Kp.mk (G3.out.step hb)
      have G4 := Kp.mk (G4.out.step hb)
      clear hb
      go_wp2_with fail
      refine (rh.out _ c _ _ _ _ HA.out.below (isrs_in SC0.out) (KC.out _ SC0.out) G2.out.now d0 d1 EC.out).mono ?_
      rintro e v4 ⟨rfl, hb⟩
      have HA := Kp.mk (HA.out.step hb)
      have HB := Kp.mk (HB.out.step hb)
      have G1 := Kp.mk (G1.out.step hb)
      have G2 := Kp.mk (G2.out.step hb)
      have G3 := Kp.mk (G3.out.step hb)
      have G4 := Kp.mk (G4.out.step hb)
      clear hb
      go_wp2_with fail
      refine (rh.out _ z _ _ _ _ HA.out.below (isrs_in SW.out) (KW.out _ SW.out) G3.out.now d0 d1 EW.out).mono ?_
      rintro e v5 ⟨rfl, hb⟩
      have HA := Kp.mk (HA.out.step hb)
      have HB := Kp.mk (HB.out.step hb)
      have G1 := Kp.mk (G1.out.step hb)
      have G2 := Kp.mk (G2.out.step hb)
      have G3 := Kp.mk (G3.out.step hb)
      have G4 := Kp.mk (G4.out.step hb)
      clear hb
      go_wp2_with fail
      refine (rh.out _ n _ _ _ _ HA.out.below (isrs_in SN.out) (KN.out _ SN.out) G4.out.now d0 d1 EN.out).mono ?_
      rintro e v6 ⟨rfl, hb⟩
      have HA := Kp.mk (HA.out.step hb)
      have HB := Kp.mk (HB.out.step hb)
      have G1 := Kp.mk (G1.out.step hb)
      have G2 := Kp.mk (G2.out.step hb)
      have G3 := Kp.mk (G3.out.step hb)
      have G4 := Kp.mk (G4.out.step hb)
      clear hb
      go_wp2_with fail
      go_roundw
      case rel => exact ⟨j + 1, by omega, by rw [SC.out]; rfl, by rw [SO.out]; rfl, by rw [HD.out.1], HA, HB, G1, G2, G3, G4⟩
      case measure => simp only [intOf]; exact HD.out.2
  ·obtain rfl : j = 321 := by omega
   have tl : ¬ (-60 + ((321 : Nat) : Int)) ≤ 260 := by omega
   have td : decide ((-60 + ((321 : Nat) : Int)) ≤ 260) = false := decide_eq_false tl
   obtain ⟨vo, hvo⟩ : ∃ v, outD (fun x => hasRs A x && !hasRs B x) 321 = v := ⟨_, rfl⟩
   obtain ⟨cd, hcd⟩ : ∃ v, cntD (fun x => hasRs A x) 321 = v := ⟨_, rfl⟩
   obtain rfl : iv = !vo := by rw [← KIV.out, in_out RA.out RB.out, hvo]
   have HCD := Kp.mk hcd
   rw [hvo, hcd]
   clear hvo hcd KIV hlt hj HB G1 G2 G3 G4 SU SC0 SW SN KU KC KW KN RB KNB rh
   by_cases hf : FinR A
   ·have HC := Kp.mk (cntR_fin RA.out hf HCD.out)
    by_cases hz : A = []
    ·subst hz
     have t0 : decide ((0 : Int) < ((([] : List Rn).length : Nat) : Int)) = false := rfl
     cases vo
     all_goals
      go_wp2_with fail
      refine (rn.out _ _ _ cd 0 HA.out.below HA.out.now HC.out).mono ?_
      rintro e v8 ⟨rfl, hb⟩
      have HA := Kp.mk (HA.out.step hb)
      clear hb rn
      go_wp2_with fail
      refine (rl.out _ HA.out.below).mono ?_
      rintro e v9 ⟨rfl, hb⟩
      have HA := Kp.mk (HA.out.step hb)
      clear hb
      go_wp2_with fail
      go_ret
      exact ⟨rfl, HA.out.below⟩
    ·obtain ⟨q, hq⟩ : ∃ q, A.length = q + 1 := ⟨A.length - 1, by have : A.length ≠ 0 := fun e => hz (List.length_eq_zero_iff.1 e); omega⟩
     obtain ⟨r0, hr0⟩ : ∃ r, A[0]? = some r := ⟨A[0]'(by omega), List.getElem?_eq_getElem _⟩
     obtain ⟨r1, hr1⟩ : ∃ r, A[q]? = some r := ⟨A[q]'(by omega), List.getElem?_eq_getElem _⟩
     have HQ := Kp.mk hq
     have H0 := Kp.mk hr0
     have H1 := Kp.mk hr1
     obtain ⟨g, s, rfl⟩ := HA.out.place hr0
     obtain ⟨e0, e1⟩ := (fin_ends RA.out.can hq hr0 hr1).1 hf
     clear hf hz hq hr0 hr1
     go_wp2_with fail
     refine (rn.out _ _ _ cd 0 HA.out.below HA.out.now HC.out).mono ?_
     rintro e v8 ⟨rfl, hb⟩
     have HA := Kp.mk (HA.out.step hb)
     clear hb rn
     have kc0 := (HA.out.first H0.out).c0
     have kc1 := (HA.out.cells H1.out).c2
     generalize A.length = p at *
     have hpq := HQ.out
     have t0 : decide (0 < p) = true := decide_eq_true (by omega)
     have t1 : decide ((0 : Int) < (p : Int)) = true := decide_eq_true (by omega)
     have t2 : 0 < p := by omega
     have w8 : IntKind.i64.wrap ((p : Int) - 1) = (q : Int) := by rw [show (p : Int) - 1 = (q : Int) by omega]; exact IntWalk.i64_in _ (by have := LA.out; omega)
     have q1 : (q : Int) < (p : Int) := by omega
     have q2 : q < p := by omega
     clear hpq
     rw [e0] at kc0
     rw [e1] at kc1
     clear e0 e1
     cases vo
     all_goals
      go_wp2_with fail
      refine (rl.out _ HA.out.below).mono ?_
      rintro e v9 ⟨rfl, hb⟩
      have HA := Kp.mk (HA.out.step hb)
      clear hb
      go_wp2_with fail
      go_ret
      exact ⟨rfl, HA.out.below⟩
   ·have HC := Kp.mk (cntR_inf hf)
    by_cases hz : A = []
    ·exact absurd (by subst hz; exact fun _ h => (by cases h)) hf
    ·obtain ⟨q, hq⟩ : ∃ q, A.length = q + 1 := ⟨A.length - 1, by have : A.length ≠ 0 := fun e => hz (List.length_eq_zero_iff.1 e); omega⟩
     obtain ⟨r0, hr0⟩ : ∃ r, A[0]? = some r := ⟨A[0]'(by omega), List.getElem?_eq_getElem _⟩
     obtain ⟨r1, hr1⟩ : ∃ r, A[q]? = some r := ⟨A[q]'(by omega), List.getElem?_eq_getElem _⟩
     have HQ := Kp.mk hq
     have H0 := Kp.mk hr0
     have H1 := Kp.mk hr1
     obtain ⟨g, s, rfl⟩ := HA.out.place hr0
     have he := mt (fin_ends RA.out.can hq hr0 hr1).2 hf
     clear hf hz hq hr0 hr1
     by_cases e0 : r0.f = 0
     ·have t4 : (r1.g != 0) = true := by rw [bne_iff_ne]; exact fun h => he ⟨e0, h⟩
      clear he
      go_wp2_with fail
      refine (rn.out _ _ _ 0 16 HA.out.below HA.out.now HC.out).mono ?_
      rintro e v8 ⟨rfl, hb⟩
      have HA := Kp.mk (HA.out.step hb)
      clear hb rn
      have kc0 := (HA.out.first H0.out).c0
      have kc1 := (HA.out.cells H1.out).c2
      generalize A.length = p at *
      have hpq := HQ.out
      have t0 : decide (0 < p) = true := decide_eq_true (by omega)
      have t1 : decide ((0 : Int) < (p : Int)) = true := decide_eq_true (by omega)
      have t2 : 0 < p := by omega
      have w8 : IntKind.i64.wrap ((p : Int) - 1) = (q : Int) := by rw [show (p : Int) - 1 = (q : Int) by omega]; exact IntWalk.i64_in _ (by have := LA.out; omega)
      have q1 : (q : Int) < (p : Int) := by omega
      have q2 : q < p := by omega
      clear hpq
      rw [e0] at kc0
      clear e0
      cases vo
      all_goals
       go_wp2_with fail
       refine (rl.out _ HA.out.below).mono ?_
       rintro e v9 ⟨rfl, hb⟩
       have HA := Kp.mk (HA.out.step hb)
       clear hb
       go_wp2_with fail
       go_ret
       exact ⟨rfl, HA.out.below⟩
     ·have t4 : (r0.f != 0) = true := by rw [bne_iff_ne]; exact e0
      clear he e0
      go_wp2_with fail
      refine (rn.out _ _ _ 0 16 HA.out.below HA.out.now HC.out).mono ?_
      rintro e v8 ⟨rfl, hb⟩
      have HA := Kp.mk (HA.out.step hb)
      clear hb rn
      have kc0 := (HA.out.first H0.out).c0
      have kc1 := (HA.out.cells H1.out).c2
      generalize A.length = p at *
      have hpq := HQ.out
      have t0 : decide (0 < p) = true := decide_eq_true (by omega)
      have t1 : decide ((0 : Int) < (p : Int)) = true := decide_eq_true (by omega)
      have t2 : 0 < p := by omega
      have w8 : IntKind.i64.wrap ((p : Int) - 1) = (q : Int) := by rw [show (p : Int) - 1 = (q : Int) by omega]; exact IntWalk.i64_in _ (by have := LA.out; omega)
      have q1 : (q : Int) < (p : Int) := by omega
      have q2 : q < p := by omega
      clear hpq
      cases vo
      all_goals
       go_wp2_with fail
       refine (rl.out _ HA.out.below).mono ?_
       rintro e v9 ⟨rfl, hb⟩
       have HA := Kp.mk (HA.out.step hb)
       clear hb
       go_wp2_with fail
       go_ret
       exact ⟨rfl, HA.out.below⟩
end Go.Proofs.YtndjcmclmhoigaaGreatDoor
