/-
  DERIVED. WALK of the law RunsPlain, given the contracts of package runs. Written by mkrn4.py.
-/
import Derived.Test.YteddfolhpoikcaaDoorPRnPlain0
import Derived.Test.YteddfolhpoikcaaDoorPRnCoreA
import Derived.Test.YteddfolhpoikcaaDoorPRnOwn
import Derived.Test.YteddfolhpoikcaaDoorPHand
namespace Go.Proofs.YteddfolhpoikcaaDoor
open Go.RowKit
set_option maxRecDepth 100000

/-- a run as plain data in a block -/
structure Rq (w : World) (g : Nat) (k l x : Int) (W : World) : Prop where
  below : Below w.heap.size w W
  size : g < W.heap.size
  c0 : W.cell? ⟨g, 0, none⟩ = some (.int .u8 k)
  c1 : W.cell? ⟨g, 1, none⟩ = some (.int .u8 l)
  c2 : W.cell? ⟨g, 2, none⟩ = some (.int .i16 x)
theorem Rq.step {w W W' : World} {g : Nat} {k l x : Int} (h : Rq w g k l x W) (hb : Below W.heap.size W W') : Rq w g k l x W' :=
  ⟨h.below.trans (hb.mono h.below.size), by have := hb.size; have := h.size; omega, by rw [hb.cell (p := ⟨g, 0, none⟩) h.size]; exact h.c0, by rw [hb.cell (p := ⟨g, 1, none⟩) h.size]; exact h.c1, by rw [hb.cell (p := ⟨g, 2, none⟩) h.size]; exact h.c2⟩
theorem Rq.ne {w W : World} {g : Nat} {k l x : Int} (h : Rq w g k l x W) : ¬ W.heap.size = g := by have := h.size; omega
theorem Rq.other {w W : World} {g j : Nat} {k l x : Int} (h : Rq w g k l x W) (hn : ¬ g = j) (hj : w.heap.size ≤ j) (v : Rn) : Rq w g k l x (World.setR W j v) :=
  ⟨below_setR h.below hj v, by rw [size_setR]; exact h.size, by rw [cell_setR W j g 0 v hn]; exact h.c0, by rw [cell_setR W j g 1 v hn]; exact h.c1, by rw [cell_setR W j g 2 v hn]; exact h.c2⟩
theorem rq_new {w W : World} (k l x : Int) (t : TypeId) (hb : Below w.heap.size w W) : Rq w W.heap.size k l x (W.alloc (.cells #[.int .u8 k, .int .u8 l, .int .i16 x] t)) :=
  ⟨hb.alloc hb.size _, by simp, by rw [World.cell?_alloc_new]; rfl, by rw [World.cell?_alloc_new]; rfl, by rw [World.cell?_alloc_new]; rfl⟩
theorem rq_two (w : World) (k l x k' l' x' : Int) : Rq w w.heap.size k l x ((w.alloc (.cells #[.int .u8 k, .int .u8 l, .int .i16 x] 49)).alloc (.cells #[.int .u8 k', .int .u8 l', .int .i16 x'] 49)) ∧ Rq w (w.heap.size + 1) k' l' x' ((w.alloc (.cells #[.int .u8 k, .int .u8 l, .int .i16 x] 49)).alloc (.cells #[.int .u8 k', .int .u8 l', .int .i16 x'] 49)) := by
  have h1 := rq_new k l x 49 (Below.refl w.heap.size w)
  have h2 := rq_new k' l' x' 49 h1.below
  rw [World.size_alloc] at h2
  exact ⟨h1.step ((Below.refl (w.alloc (.cells #[.int .u8 k, .int .u8 l, .int .i16 x] 49)).heap.size _).alloc (Nat.le_refl _) _), h2⟩
set_option maxHeartbeats 16000000 in
theorem lawPlain_any {I : World → Prop} (C : RunFnsA I) (k l x k' l' x' : Int) (w : World) (hI : I w) (k0 : 0 ≤ k) (l0 : 0 ≤ l) (k0' : 0 ≤ k') (l0' : 0 ≤ l') :
    Calls Tryd.prog 8 #[.agg #[.int .u8 k, .int .u8 l, .int .i16 x], .agg #[.int .u8 k', .int .u8 l', .int .i16 x']] w fun e w' => e = .returned (.bool true) ∧ Below w.heap.size w w' := by
  obtain ⟨m, hm⟩ : ∃ m, k % 8 = m := ⟨_, rfl⟩
  obtain ⟨n, hn⟩ : ∃ n, l % 16 = n := ⟨_, rfl⟩
  obtain ⟨m', hm'⟩ : ∃ m, k' % 8 = m := ⟨_, rfl⟩
  obtain ⟨n', hn'⟩ : ∃ n, l' % 16 = n := ⟨_, rfl⟩
  obtain ⟨y, hy⟩ : ∃ y, x.tmod 40 = y := ⟨_, rfl⟩
  obtain ⟨y', hy'⟩ : ∃ y, x'.tmod 40 = y := ⟨_, rfl⟩
  have by1 : -39 ≤ y ∧ y ≤ 39 := by have := tmod_of (a := x) (k := 40) (by omega); rw [hy] at this; split at this <;> omega
  have by2 : -39 ≤ y' ∧ y' ≤ 39 := by have := tmod_of (a := x') (k := 40) (by omega); rw [hy'] at this; split at this <;> omega
  obtain ⟨a, ha⟩ : ∃ a, ofR m n y = a := ⟨_, rfl⟩
  obtain ⟨b, hb⟩ : ∃ b, ofR m' n' y' = b := ⟨_, rfl⟩
  have sa : Small a := by rw [← ha]; exact ofR_small (by omega) (by omega) by1.1 by1.2
  have sb : Small b := by rw [← hb]; exact ofR_small (by omega) (by omega) by2.1 by2.2
  have HX := Kp.mk (rq_two w k l y k' l' y').1
  have HY := Kp.mk (rq_two w k l y k' l' y').2
  have HB := Kp.mk (Bl.mk HX.out.below)
  have HI := Kp.mk (fun (v : World) (h : Below w.heap.size w v) => C.keep hI h)
  clear hI
  have rl := Kp.mk (fun v (hw : Below w.heap.size w v) => C.lives v (HI.out v hw))
  have r1 := Kp.mk (fun w => ofR_is hm hn k0 l0 (by omega) (by omega) ha w)
  have r2 := Kp.mk (fun w => ofR_is hm' hn' k0' l0' (by omega) (by omega) hb w)
  have wy : IntKind.i16.wrap y = y := by simp [IntKind.wrap, IntKind.signed, IntKind.bits]; omega
  have wy' : IntKind.i16.wrap y' = y' := by simp [IntKind.wrap, IntKind.signed, IntKind.bits]; omega
  clear hm hn hm' hn' k0 l0 k0' l0' by1 by2 ha hb
  go_enter Tryd.func8, Tryd.ntmps8
  go_upto_region 3 with fail

  generalize (w.alloc (.cells #[.int .u8 k, .int .u8 l, .int .i16 y] 49)).alloc (.cells #[.int .u8 k', .int .u8 l', .int .i16 y'] 49) = w0 at *
  go_cut [5, 6] from 17 to 28 (fun p q wx => ∃ g5 g6 : Nat, p = .pointer (some ⟨g5, 0, none⟩) ∧ q = .pointer (some ⟨g6, 0, none⟩) ∧ Kp (Rg w g5 a wx) ∧ Kp (Rg w g6 b wx))
  case first =>
    have hd := (Below.refl w0.heap.size w0).drew
    have HB := Kp.mk (HB.out.step hd)
    have HX := Kp.mk (HX.out.step hd)
    have HY := Kp.mk (HY.out.step hd)
    clear hd
    refine wp_region_held_drew (S := fun w' => w'.cell? ⟨w.heap.size, 0, none⟩ = some (.int .u8 k) ∧ w'.cell? ⟨w.heap.size, 1, none⟩ = some (.int .u8 l) ∧ w'.cell? ⟨w.heap.size, 2, none⟩ = some (.int .i16 y) ∧ w'.cell? ⟨w.heap.size + 1, 0, none⟩ = some (.int .u8 k') ∧ w'.cell? ⟨w.heap.size + 1, 1, none⟩ = some (.int .u8 l') ∧ w'.cell? ⟨w.heap.size + 1, 2, none⟩ = some (.int .i16 y')) (by kernel_rfl) ?_ (fun hHeld => ?_)
    · exact ⟨HX.out.c0, HX.out.c1, HX.out.c2, HY.out.c0, HY.out.c1, HY.out.c2⟩
    generalize w0.drew = vz at *
    refine takeIn (i := 0) (v := ?_) rfl (by kernel_rfl) (by kernel_rfl) (by kernel_rfl) (fun _ _ _ h => h) (by rfl) hHeld ?_ ?_
    rotate_left
    · (intro w hSw; (try dsimp only at hSw); go_simp; try with_reducible rfl)
    try simp only [Act.put, List.setIfInBounds_toArray, List.set_cons_zero, List.set_cons_succ]
    refine takeIn (i := 2) (v := ?_) rfl (by kernel_rfl) (by kernel_rfl) (by kernel_rfl) (fun _ _ _ h => h) (by rfl) hHeld ?_ ?_
    rotate_left
    · (intro w hSw; (try dsimp only at hSw); go_simp; try with_reducible rfl)
    try simp only [Act.put, List.setIfInBounds_toArray, List.set_cons_zero, List.set_cons_succ]
    refine wpAnyH_ready (rs := [1, 4, 5]) (by kernel_rfl) (by simp) ?_
    refine AllReadyH.cons (dropAt rfl) (fun K hK => ?_) (AllReadyH.cons (dropAt rfl) (fun K hK => ?_) (AllReadyH.cons (dropAt rfl) (fun K hK => ?_) AllReadyH.nil))
    · clear hHeld
      go_simp
      go_at_call 26
      with_reducible refine (r1.out _).mono ?_
      rintro e v1 ⟨rfl, hb⟩
      have HB := Kp.mk (HB.out.step hb)
      have HX := Kp.mk (HX.out.step hb)
      have HY := Kp.mk (HY.out.step hb)
      clear hb
      go_wp2_with fail
      refine hK.out _ _ ?_ (fun hHeld => ?_)
      · exact ⟨HX.out.c0, HX.out.c1, HX.out.c2, HY.out.c0, HY.out.c1, HY.out.c2⟩
      clear hK K
      try simp only [Act.put, List.setIfInBounds_toArray, List.set_cons_zero, List.set_cons_succ]
      refine wpAnyH_ready (rs := [3, 4, 5]) (by kernel_rfl) (by simp) ?_
      refine AllReadyH.cons (dropAt rfl) (fun K hK => ?_) (AllReadyH.cons (dropAt rfl) (fun K hK => ?_) (AllReadyH.cons (dropAt rfl) (fun K hK => ?_) AllReadyH.nil))
      · clear hHeld
        go_simp
        go_at_call 26
        with_reducible refine (r2.out _).mono ?_
        rintro e v2 ⟨rfl, hb⟩
        have HB := Kp.mk (HB.out.step hb)
        have HX := Kp.mk (HX.out.step hb)
        have HY := Kp.mk (HY.out.step hb)
        clear hb
        go_wp2_with fail
        refine hK.out _ _ ?_ (fun hHeld => ?_)
        · exact ⟨HX.out.c0, HX.out.c1, HX.out.c2, HY.out.c0, HY.out.c1, HY.out.c2⟩
        clear hK K
        try simp only [Act.put, List.setIfInBounds_toArray, List.set_cons_zero, List.set_cons_succ]
        refine wpAnyH_ready (rs := [4, 5]) (by kernel_rfl) (by simp) ?_
        refine AllReadyH.cons (dropAt rfl) (fun K hK => ?_) (AllReadyH.cons (dropAt rfl) (fun K hK => ?_) AllReadyH.nil)
        · clear hHeld
          go_simp
          have hbl := (Below.refl v2.heap.size v2).alloc (Nat.le_refl _) (.cells #[.int .i8 0, .int .i64 0, .int .i8 0, .int .i64 0] 51)
          have H5 := Kp.mk (ro_new HB.out.below)
          have NH5HX := Kp.mk HX.out.ne
          have NH5HY := Kp.mk HY.out.ne
          have HB := Kp.mk (HB.out.step hbl)
          have HX := Kp.mk (HX.out.step hbl)
          have HY := Kp.mk (HY.out.step hbl)
          clear hbl
          generalize v2.alloc (.cells #[.int .i8 0, .int .i64 0, .int .i8 0, .int .i64 0] 51) = v3 at *
          generalize v2.heap.size = gH5 at *
          refine hK.out _ _ ?_ (fun hHeld => ?_)
          · exact ⟨HX.out.c0, HX.out.c1, HX.out.c2, HY.out.c0, HY.out.c1, HY.out.c2⟩
          clear hK K
          try simp only [Act.put, List.setIfInBounds_toArray, List.set_cons_zero, List.set_cons_succ]
          refine wpAnyH_ready (rs := [5]) (by kernel_rfl) (by simp) ?_
          refine AllReadyH.cons (dropAt rfl) (fun K hK => ?_) AllReadyH.nil
          · clear hHeld
            go_simp
            have hbl := (Below.refl v3.heap.size v3).alloc (Nat.le_refl _) (.cells #[.int .i8 0, .int .i64 0, .int .i8 0, .int .i64 0] 51)
            have H6 := Kp.mk (ro_new HB.out.below)
            have NH6H5 := Kp.mk H5.out.ne
            have NH6HX := Kp.mk HX.out.ne
            have NH6HY := Kp.mk HY.out.ne
            have HB := Kp.mk (HB.out.step hbl)
            have HX := Kp.mk (HX.out.step hbl)
            have HY := Kp.mk (HY.out.step hbl)
            have H5 := Kp.mk (H5.out.step hbl)
            clear hbl
            generalize v3.alloc (.cells #[.int .i8 0, .int .i64 0, .int .i8 0, .int .i64 0] 51) = v4 at *
            generalize v3.heap.size = gH6 at *
            refine hK.out _ _ ?_ (fun hHeld => ?_)
            · exact ⟨HX.out.c0, HX.out.c1, HX.out.c2, HY.out.c0, HY.out.c1, HY.out.c2⟩
            clear hK K
            try simp only [Act.put, List.setIfInBounds_toArray, List.set_cons_zero, List.set_cons_succ]
            refine wpAnyH_ready (rs := [6]) (by kernel_rfl) (by simp) ?_
            refine AllReadyH.cons (dropAt rfl) (fun K hK => ?_) AllReadyH.nil
            · clear hHeld
              have k0 : v4.cell? ⟨gH5, 0, none⟩ = some (.int .i8 0) := H5.out.c0
              have l0 := H5.out.frozen 0
              have k1 : v4.cell? ⟨gH5, 1, none⟩ = some (.int .i64 0) := H5.out.c1
              have l1 := H5.out.frozen 1
              have k2 : v4.cell? ⟨gH5, 2, none⟩ = some (.int .i8 0) := H5.out.c2
              have l2 := H5.out.frozen 2
              have k3 : v4.cell? ⟨gH5, 3, none⟩ = some (.int .i64 0) := H5.out.c3
              have l3 := H5.out.frozen 3
              go_simp
              clear k0 k1 k2 k3 l0 l1 l2 l3
              have bs0 := H5.out.base
              have HB : Kp (Bl w ((((v4.setCell ⟨gH5, 0, none⟩ (.int .i8 a.f)).setCell ⟨gH5, 1, none⟩ (.int .i64 a.d)).setCell ⟨gH5, 2, none⟩ (.int .i8 a.g)).setCell ⟨gH5, 3, none⟩ (.int .i64 a.e))) := Kp.mk (Bl.mk (below_setR HB.out.below bs0 a))
              have HX : Kp (Rq w (w.heap.size) k l y ((((v4.setCell ⟨gH5, 0, none⟩ (.int .i8 a.f)).setCell ⟨gH5, 1, none⟩ (.int .i64 a.d)).setCell ⟨gH5, 2, none⟩ (.int .i8 a.g)).setCell ⟨gH5, 3, none⟩ (.int .i64 a.e))) := Kp.mk (HX.out.other (fun q => NH5HX.out q.symm) bs0 a)
              have HY : Kp (Rq w (w.heap.size + 1) k' l' y' ((((v4.setCell ⟨gH5, 0, none⟩ (.int .i8 a.f)).setCell ⟨gH5, 1, none⟩ (.int .i64 a.d)).setCell ⟨gH5, 2, none⟩ (.int .i8 a.g)).setCell ⟨gH5, 3, none⟩ (.int .i64 a.e))) := Kp.mk (HY.out.other (fun q => NH5HY.out q.symm) bs0 a)
              have H6 : Kp (Ro w gH6 zeroR ((((v4.setCell ⟨gH5, 0, none⟩ (.int .i8 a.f)).setCell ⟨gH5, 1, none⟩ (.int .i64 a.d)).setCell ⟨gH5, 2, none⟩ (.int .i8 a.g)).setCell ⟨gH5, 3, none⟩ (.int .i64 a.e))) := Kp.mk (H6.out.other (NH6H5.out) bs0 a)
              have H5 : Kp (Ro w gH5 a ((((v4.setCell ⟨gH5, 0, none⟩ (.int .i8 a.f)).setCell ⟨gH5, 1, none⟩ (.int .i64 a.d)).setCell ⟨gH5, 2, none⟩ (.int .i8 a.g)).setCell ⟨gH5, 3, none⟩ (.int .i64 a.e))) := Kp.mk (H5.out.fill a)
              clear bs0
              generalize ((((v4.setCell ⟨gH5, 0, none⟩ (.int .i8 a.f)).setCell ⟨gH5, 1, none⟩ (.int .i64 a.d)).setCell ⟨gH5, 2, none⟩ (.int .i8 a.g)).setCell ⟨gH5, 3, none⟩ (.int .i64 a.e)) = v5 at *
              refine hK.out _ _ ?_ (fun hHeld => ?_)
              · exact ⟨HX.out.c0, HX.out.c1, HX.out.c2, HY.out.c0, HY.out.c1, HY.out.c2⟩
              clear hK K
              try simp only [Act.put, List.setIfInBounds_toArray, List.set_cons_zero, List.set_cons_succ]
              refine wpAnyH_ready (rs := [7]) (by kernel_rfl) (by simp) ?_
              refine AllReadyH.cons (dropAt rfl) (fun K hK => ?_) AllReadyH.nil
              · clear hHeld
                have k0 : v5.cell? ⟨gH6, 0, none⟩ = some (.int .i8 0) := H6.out.c0
                have l0 := H6.out.frozen 0
                have k1 : v5.cell? ⟨gH6, 1, none⟩ = some (.int .i64 0) := H6.out.c1
                have l1 := H6.out.frozen 1
                have k2 : v5.cell? ⟨gH6, 2, none⟩ = some (.int .i8 0) := H6.out.c2
                have l2 := H6.out.frozen 2
                have k3 : v5.cell? ⟨gH6, 3, none⟩ = some (.int .i64 0) := H6.out.c3
                have l3 := H6.out.frozen 3
                go_simp
                clear k0 k1 k2 k3 l0 l1 l2 l3
                have bs0 := H6.out.base
                have HB : Kp (Bl w ((((v5.setCell ⟨gH6, 0, none⟩ (.int .i8 b.f)).setCell ⟨gH6, 1, none⟩ (.int .i64 b.d)).setCell ⟨gH6, 2, none⟩ (.int .i8 b.g)).setCell ⟨gH6, 3, none⟩ (.int .i64 b.e))) := Kp.mk (Bl.mk (below_setR HB.out.below bs0 b))
                have HX : Kp (Rq w (w.heap.size) k l y ((((v5.setCell ⟨gH6, 0, none⟩ (.int .i8 b.f)).setCell ⟨gH6, 1, none⟩ (.int .i64 b.d)).setCell ⟨gH6, 2, none⟩ (.int .i8 b.g)).setCell ⟨gH6, 3, none⟩ (.int .i64 b.e))) := Kp.mk (HX.out.other (fun q => NH6HX.out q.symm) bs0 b)
                have HY : Kp (Rq w (w.heap.size + 1) k' l' y' ((((v5.setCell ⟨gH6, 0, none⟩ (.int .i8 b.f)).setCell ⟨gH6, 1, none⟩ (.int .i64 b.d)).setCell ⟨gH6, 2, none⟩ (.int .i8 b.g)).setCell ⟨gH6, 3, none⟩ (.int .i64 b.e))) := Kp.mk (HY.out.other (fun q => NH6HY.out q.symm) bs0 b)
                have H5 : Kp (Ro w gH5 a ((((v5.setCell ⟨gH6, 0, none⟩ (.int .i8 b.f)).setCell ⟨gH6, 1, none⟩ (.int .i64 b.d)).setCell ⟨gH6, 2, none⟩ (.int .i8 b.g)).setCell ⟨gH6, 3, none⟩ (.int .i64 b.e))) := Kp.mk (H5.out.other (fun q => NH6H5.out q.symm) bs0 b)
                have H6 : Kp (Ro w gH6 b ((((v5.setCell ⟨gH6, 0, none⟩ (.int .i8 b.f)).setCell ⟨gH6, 1, none⟩ (.int .i64 b.d)).setCell ⟨gH6, 2, none⟩ (.int .i8 b.g)).setCell ⟨gH6, 3, none⟩ (.int .i64 b.e))) := Kp.mk (H6.out.fill b)
                clear bs0
                generalize ((((v5.setCell ⟨gH6, 0, none⟩ (.int .i8 b.f)).setCell ⟨gH6, 1, none⟩ (.int .i64 b.d)).setCell ⟨gH6, 2, none⟩ (.int .i8 b.g)).setCell ⟨gH6, 3, none⟩ (.int .i64 b.e)) = v6 at *
                refine hK.out _ _ ?_ (fun hHeld => ?_)
                · exact ⟨HX.out.c0, HX.out.c1, HX.out.c2, HY.out.c0, HY.out.c1, HY.out.c2⟩
                clear hK K
                try simp only [Act.put, List.setIfInBounds_toArray, List.set_cons_zero, List.set_cons_succ]
                refine wpAnyH_done (by kernel_rfl) ?_ _
                clear hHeld
                go_wp2_with fail
                go_meet
                exact ⟨gH5, gH6, rfl, rfl, Kp.mk H5.out.rg, Kp.mk H6.out.rg⟩
        · clear hHeld
          go_simp
          have hbl := (Below.refl v2.heap.size v2).alloc (Nat.le_refl _) (.cells #[.int .i8 0, .int .i64 0, .int .i8 0, .int .i64 0] 51)
          have H6 := Kp.mk (ro_new HB.out.below)
          have NH6HX := Kp.mk HX.out.ne
          have NH6HY := Kp.mk HY.out.ne
          have HB := Kp.mk (HB.out.step hbl)
          have HX := Kp.mk (HX.out.step hbl)
          have HY := Kp.mk (HY.out.step hbl)
          clear hbl
          generalize v2.alloc (.cells #[.int .i8 0, .int .i64 0, .int .i8 0, .int .i64 0] 51) = v7 at *
          generalize v2.heap.size = gH6 at *
          refine hK.out _ _ ?_ (fun hHeld => ?_)
          · exact ⟨HX.out.c0, HX.out.c1, HX.out.c2, HY.out.c0, HY.out.c1, HY.out.c2⟩
          clear hK K
          try simp only [Act.put, List.setIfInBounds_toArray, List.set_cons_zero, List.set_cons_succ]
          refine wpAnyH_ready (rs := [4]) (by kernel_rfl) (by simp) ?_
          refine AllReadyH.cons (dropAt rfl) (fun K hK => ?_) AllReadyH.nil
          · clear hHeld
            go_simp
            have hbl := (Below.refl v7.heap.size v7).alloc (Nat.le_refl _) (.cells #[.int .i8 0, .int .i64 0, .int .i8 0, .int .i64 0] 51)
            have H5 := Kp.mk (ro_new HB.out.below)
            have NH5H6 := Kp.mk H6.out.ne
            have NH5HX := Kp.mk HX.out.ne
            have NH5HY := Kp.mk HY.out.ne
            have HB := Kp.mk (HB.out.step hbl)
            have HX := Kp.mk (HX.out.step hbl)
            have HY := Kp.mk (HY.out.step hbl)
            have H6 := Kp.mk (H6.out.step hbl)
            clear hbl
            generalize v7.alloc (.cells #[.int .i8 0, .int .i64 0, .int .i8 0, .int .i64 0] 51) = v8 at *
            generalize v7.heap.size = gH5 at *
            refine hK.out _ _ ?_ (fun hHeld => ?_)
            · exact ⟨HX.out.c0, HX.out.c1, HX.out.c2, HY.out.c0, HY.out.c1, HY.out.c2⟩
            clear hK K
            try simp only [Act.put, List.setIfInBounds_toArray, List.set_cons_zero, List.set_cons_succ]
            refine wpAnyH_ready (rs := [6]) (by kernel_rfl) (by simp) ?_
            refine AllReadyH.cons (dropAt rfl) (fun K hK => ?_) AllReadyH.nil
            · clear hHeld
              have k0 : v8.cell? ⟨gH5, 0, none⟩ = some (.int .i8 0) := H5.out.c0
              have l0 := H5.out.frozen 0
              have k1 : v8.cell? ⟨gH5, 1, none⟩ = some (.int .i64 0) := H5.out.c1
              have l1 := H5.out.frozen 1
              have k2 : v8.cell? ⟨gH5, 2, none⟩ = some (.int .i8 0) := H5.out.c2
              have l2 := H5.out.frozen 2
              have k3 : v8.cell? ⟨gH5, 3, none⟩ = some (.int .i64 0) := H5.out.c3
              have l3 := H5.out.frozen 3
              go_simp
              clear k0 k1 k2 k3 l0 l1 l2 l3
              have bs0 := H5.out.base
              have HB : Kp (Bl w ((((v8.setCell ⟨gH5, 0, none⟩ (.int .i8 a.f)).setCell ⟨gH5, 1, none⟩ (.int .i64 a.d)).setCell ⟨gH5, 2, none⟩ (.int .i8 a.g)).setCell ⟨gH5, 3, none⟩ (.int .i64 a.e))) := Kp.mk (Bl.mk (below_setR HB.out.below bs0 a))
              have HX : Kp (Rq w (w.heap.size) k l y ((((v8.setCell ⟨gH5, 0, none⟩ (.int .i8 a.f)).setCell ⟨gH5, 1, none⟩ (.int .i64 a.d)).setCell ⟨gH5, 2, none⟩ (.int .i8 a.g)).setCell ⟨gH5, 3, none⟩ (.int .i64 a.e))) := Kp.mk (HX.out.other (fun q => NH5HX.out q.symm) bs0 a)
              have HY : Kp (Rq w (w.heap.size + 1) k' l' y' ((((v8.setCell ⟨gH5, 0, none⟩ (.int .i8 a.f)).setCell ⟨gH5, 1, none⟩ (.int .i64 a.d)).setCell ⟨gH5, 2, none⟩ (.int .i8 a.g)).setCell ⟨gH5, 3, none⟩ (.int .i64 a.e))) := Kp.mk (HY.out.other (fun q => NH5HY.out q.symm) bs0 a)
              have H6 : Kp (Ro w gH6 zeroR ((((v8.setCell ⟨gH5, 0, none⟩ (.int .i8 a.f)).setCell ⟨gH5, 1, none⟩ (.int .i64 a.d)).setCell ⟨gH5, 2, none⟩ (.int .i8 a.g)).setCell ⟨gH5, 3, none⟩ (.int .i64 a.e))) := Kp.mk (H6.out.other (fun q => NH5H6.out q.symm) bs0 a)
              have H5 : Kp (Ro w gH5 a ((((v8.setCell ⟨gH5, 0, none⟩ (.int .i8 a.f)).setCell ⟨gH5, 1, none⟩ (.int .i64 a.d)).setCell ⟨gH5, 2, none⟩ (.int .i8 a.g)).setCell ⟨gH5, 3, none⟩ (.int .i64 a.e))) := Kp.mk (H5.out.fill a)
              clear bs0
              generalize ((((v8.setCell ⟨gH5, 0, none⟩ (.int .i8 a.f)).setCell ⟨gH5, 1, none⟩ (.int .i64 a.d)).setCell ⟨gH5, 2, none⟩ (.int .i8 a.g)).setCell ⟨gH5, 3, none⟩ (.int .i64 a.e)) = v9 at *
              refine hK.out _ _ ?_ (fun hHeld => ?_)
              · exact ⟨HX.out.c0, HX.out.c1, HX.out.c2, HY.out.c0, HY.out.c1, HY.out.c2⟩
              clear hK K
              try simp only [Act.put, List.setIfInBounds_toArray, List.set_cons_zero, List.set_cons_succ]
              refine wpAnyH_ready (rs := [7]) (by kernel_rfl) (by simp) ?_
              refine AllReadyH.cons (dropAt rfl) (fun K hK => ?_) AllReadyH.nil
              · clear hHeld
                have k0 : v9.cell? ⟨gH6, 0, none⟩ = some (.int .i8 0) := H6.out.c0
                have l0 := H6.out.frozen 0
                have k1 : v9.cell? ⟨gH6, 1, none⟩ = some (.int .i64 0) := H6.out.c1
                have l1 := H6.out.frozen 1
                have k2 : v9.cell? ⟨gH6, 2, none⟩ = some (.int .i8 0) := H6.out.c2
                have l2 := H6.out.frozen 2
                have k3 : v9.cell? ⟨gH6, 3, none⟩ = some (.int .i64 0) := H6.out.c3
                have l3 := H6.out.frozen 3
                go_simp
                clear k0 k1 k2 k3 l0 l1 l2 l3
                have bs0 := H6.out.base
                have HB : Kp (Bl w ((((v9.setCell ⟨gH6, 0, none⟩ (.int .i8 b.f)).setCell ⟨gH6, 1, none⟩ (.int .i64 b.d)).setCell ⟨gH6, 2, none⟩ (.int .i8 b.g)).setCell ⟨gH6, 3, none⟩ (.int .i64 b.e))) := Kp.mk (Bl.mk (below_setR HB.out.below bs0 b))
                have HX : Kp (Rq w (w.heap.size) k l y ((((v9.setCell ⟨gH6, 0, none⟩ (.int .i8 b.f)).setCell ⟨gH6, 1, none⟩ (.int .i64 b.d)).setCell ⟨gH6, 2, none⟩ (.int .i8 b.g)).setCell ⟨gH6, 3, none⟩ (.int .i64 b.e))) := Kp.mk (HX.out.other (fun q => NH6HX.out q.symm) bs0 b)
                have HY : Kp (Rq w (w.heap.size + 1) k' l' y' ((((v9.setCell ⟨gH6, 0, none⟩ (.int .i8 b.f)).setCell ⟨gH6, 1, none⟩ (.int .i64 b.d)).setCell ⟨gH6, 2, none⟩ (.int .i8 b.g)).setCell ⟨gH6, 3, none⟩ (.int .i64 b.e))) := Kp.mk (HY.out.other (fun q => NH6HY.out q.symm) bs0 b)
                have H5 : Kp (Ro w gH5 a ((((v9.setCell ⟨gH6, 0, none⟩ (.int .i8 b.f)).setCell ⟨gH6, 1, none⟩ (.int .i64 b.d)).setCell ⟨gH6, 2, none⟩ (.int .i8 b.g)).setCell ⟨gH6, 3, none⟩ (.int .i64 b.e))) := Kp.mk (H5.out.other (NH5H6.out) bs0 b)
                have H6 : Kp (Ro w gH6 b ((((v9.setCell ⟨gH6, 0, none⟩ (.int .i8 b.f)).setCell ⟨gH6, 1, none⟩ (.int .i64 b.d)).setCell ⟨gH6, 2, none⟩ (.int .i8 b.g)).setCell ⟨gH6, 3, none⟩ (.int .i64 b.e))) := Kp.mk (H6.out.fill b)
                clear bs0
                generalize ((((v9.setCell ⟨gH6, 0, none⟩ (.int .i8 b.f)).setCell ⟨gH6, 1, none⟩ (.int .i64 b.d)).setCell ⟨gH6, 2, none⟩ (.int .i8 b.g)).setCell ⟨gH6, 3, none⟩ (.int .i64 b.e)) = v10 at *
                refine hK.out _ _ ?_ (fun hHeld => ?_)
                · exact ⟨HX.out.c0, HX.out.c1, HX.out.c2, HY.out.c0, HY.out.c1, HY.out.c2⟩
                clear hK K
                try simp only [Act.put, List.setIfInBounds_toArray, List.set_cons_zero, List.set_cons_succ]
                refine wpAnyH_done (by kernel_rfl) ?_ _
                clear hHeld
                go_wp2_with fail
                go_meet
                exact ⟨gH5, gH6, rfl, rfl, Kp.mk H5.out.rg, Kp.mk H6.out.rg⟩
      · clear hHeld
        go_simp
        have hbl := (Below.refl v1.heap.size v1).alloc (Nat.le_refl _) (.cells #[.int .i8 0, .int .i64 0, .int .i8 0, .int .i64 0] 51)
        have H5 := Kp.mk (ro_new HB.out.below)
        have NH5HX := Kp.mk HX.out.ne
        have NH5HY := Kp.mk HY.out.ne
        have HB := Kp.mk (HB.out.step hbl)
        have HX := Kp.mk (HX.out.step hbl)
        have HY := Kp.mk (HY.out.step hbl)
        clear hbl
        generalize v1.alloc (.cells #[.int .i8 0, .int .i64 0, .int .i8 0, .int .i64 0] 51) = v11 at *
        generalize v1.heap.size = gH5 at *
        refine hK.out _ _ ?_ (fun hHeld => ?_)
        · exact ⟨HX.out.c0, HX.out.c1, HX.out.c2, HY.out.c0, HY.out.c1, HY.out.c2⟩
        clear hK K
        try simp only [Act.put, List.setIfInBounds_toArray, List.set_cons_zero, List.set_cons_succ]
        refine wpAnyH_ready (rs := [3, 5]) (by kernel_rfl) (by simp) ?_
        refine AllReadyH.cons (dropAt rfl) (fun K hK => ?_) (AllReadyH.cons (dropAt rfl) (fun K hK => ?_) AllReadyH.nil)
        · clear hHeld
          go_simp
          go_at_call 26
          with_reducible refine (r2.out _).mono ?_
          rintro e v12 ⟨rfl, hb⟩
          have HB := Kp.mk (HB.out.step hb)
          have HX := Kp.mk (HX.out.step hb)
          have HY := Kp.mk (HY.out.step hb)
          have H5 := Kp.mk (H5.out.step hb)
          clear hb
          go_wp2_with fail
          refine hK.out _ _ ?_ (fun hHeld => ?_)
          · exact ⟨HX.out.c0, HX.out.c1, HX.out.c2, HY.out.c0, HY.out.c1, HY.out.c2⟩
          clear hK K
          try simp only [Act.put, List.setIfInBounds_toArray, List.set_cons_zero, List.set_cons_succ]
          refine wpAnyH_ready (rs := [5]) (by kernel_rfl) (by simp) ?_
          refine AllReadyH.cons (dropAt rfl) (fun K hK => ?_) AllReadyH.nil
          · clear hHeld
            go_simp
            have hbl := (Below.refl v12.heap.size v12).alloc (Nat.le_refl _) (.cells #[.int .i8 0, .int .i64 0, .int .i8 0, .int .i64 0] 51)
            have H6 := Kp.mk (ro_new HB.out.below)
            have NH6H5 := Kp.mk H5.out.ne
            have NH6HX := Kp.mk HX.out.ne
            have NH6HY := Kp.mk HY.out.ne
            have HB := Kp.mk (HB.out.step hbl)
            have HX := Kp.mk (HX.out.step hbl)
            have HY := Kp.mk (HY.out.step hbl)
            have H5 := Kp.mk (H5.out.step hbl)
            clear hbl
            generalize v12.alloc (.cells #[.int .i8 0, .int .i64 0, .int .i8 0, .int .i64 0] 51) = v13 at *
            generalize v12.heap.size = gH6 at *
            refine hK.out _ _ ?_ (fun hHeld => ?_)
            · exact ⟨HX.out.c0, HX.out.c1, HX.out.c2, HY.out.c0, HY.out.c1, HY.out.c2⟩
            clear hK K
            try simp only [Act.put, List.setIfInBounds_toArray, List.set_cons_zero, List.set_cons_succ]
            refine wpAnyH_ready (rs := [6]) (by kernel_rfl) (by simp) ?_
            refine AllReadyH.cons (dropAt rfl) (fun K hK => ?_) AllReadyH.nil
            · clear hHeld
              have k0 : v13.cell? ⟨gH5, 0, none⟩ = some (.int .i8 0) := H5.out.c0
              have l0 := H5.out.frozen 0
              have k1 : v13.cell? ⟨gH5, 1, none⟩ = some (.int .i64 0) := H5.out.c1
              have l1 := H5.out.frozen 1
              have k2 : v13.cell? ⟨gH5, 2, none⟩ = some (.int .i8 0) := H5.out.c2
              have l2 := H5.out.frozen 2
              have k3 : v13.cell? ⟨gH5, 3, none⟩ = some (.int .i64 0) := H5.out.c3
              have l3 := H5.out.frozen 3
              go_simp
              clear k0 k1 k2 k3 l0 l1 l2 l3
              have bs0 := H5.out.base
              have HB : Kp (Bl w ((((v13.setCell ⟨gH5, 0, none⟩ (.int .i8 a.f)).setCell ⟨gH5, 1, none⟩ (.int .i64 a.d)).setCell ⟨gH5, 2, none⟩ (.int .i8 a.g)).setCell ⟨gH5, 3, none⟩ (.int .i64 a.e))) := Kp.mk (Bl.mk (below_setR HB.out.below bs0 a))
              have HX : Kp (Rq w (w.heap.size) k l y ((((v13.setCell ⟨gH5, 0, none⟩ (.int .i8 a.f)).setCell ⟨gH5, 1, none⟩ (.int .i64 a.d)).setCell ⟨gH5, 2, none⟩ (.int .i8 a.g)).setCell ⟨gH5, 3, none⟩ (.int .i64 a.e))) := Kp.mk (HX.out.other (fun q => NH5HX.out q.symm) bs0 a)
              have HY : Kp (Rq w (w.heap.size + 1) k' l' y' ((((v13.setCell ⟨gH5, 0, none⟩ (.int .i8 a.f)).setCell ⟨gH5, 1, none⟩ (.int .i64 a.d)).setCell ⟨gH5, 2, none⟩ (.int .i8 a.g)).setCell ⟨gH5, 3, none⟩ (.int .i64 a.e))) := Kp.mk (HY.out.other (fun q => NH5HY.out q.symm) bs0 a)
              have H6 : Kp (Ro w gH6 zeroR ((((v13.setCell ⟨gH5, 0, none⟩ (.int .i8 a.f)).setCell ⟨gH5, 1, none⟩ (.int .i64 a.d)).setCell ⟨gH5, 2, none⟩ (.int .i8 a.g)).setCell ⟨gH5, 3, none⟩ (.int .i64 a.e))) := Kp.mk (H6.out.other (NH6H5.out) bs0 a)
              have H5 : Kp (Ro w gH5 a ((((v13.setCell ⟨gH5, 0, none⟩ (.int .i8 a.f)).setCell ⟨gH5, 1, none⟩ (.int .i64 a.d)).setCell ⟨gH5, 2, none⟩ (.int .i8 a.g)).setCell ⟨gH5, 3, none⟩ (.int .i64 a.e))) := Kp.mk (H5.out.fill a)
              clear bs0
              generalize ((((v13.setCell ⟨gH5, 0, none⟩ (.int .i8 a.f)).setCell ⟨gH5, 1, none⟩ (.int .i64 a.d)).setCell ⟨gH5, 2, none⟩ (.int .i8 a.g)).setCell ⟨gH5, 3, none⟩ (.int .i64 a.e)) = v14 at *
              refine hK.out _ _ ?_ (fun hHeld => ?_)
              · exact ⟨HX.out.c0, HX.out.c1, HX.out.c2, HY.out.c0, HY.out.c1, HY.out.c2⟩
              clear hK K
              try simp only [Act.put, List.setIfInBounds_toArray, List.set_cons_zero, List.set_cons_succ]
              refine wpAnyH_ready (rs := [7]) (by kernel_rfl) (by simp) ?_
              refine AllReadyH.cons (dropAt rfl) (fun K hK => ?_) AllReadyH.nil
              · clear hHeld
                have k0 : v14.cell? ⟨gH6, 0, none⟩ = some (.int .i8 0) := H6.out.c0
                have l0 := H6.out.frozen 0
                have k1 : v14.cell? ⟨gH6, 1, none⟩ = some (.int .i64 0) := H6.out.c1
                have l1 := H6.out.frozen 1
                have k2 : v14.cell? ⟨gH6, 2, none⟩ = some (.int .i8 0) := H6.out.c2
                have l2 := H6.out.frozen 2
                have k3 : v14.cell? ⟨gH6, 3, none⟩ = some (.int .i64 0) := H6.out.c3
                have l3 := H6.out.frozen 3
                go_simp
                clear k0 k1 k2 k3 l0 l1 l2 l3
                have bs0 := H6.out.base
                have HB : Kp (Bl w ((((v14.setCell ⟨gH6, 0, none⟩ (.int .i8 b.f)).setCell ⟨gH6, 1, none⟩ (.int .i64 b.d)).setCell ⟨gH6, 2, none⟩ (.int .i8 b.g)).setCell ⟨gH6, 3, none⟩ (.int .i64 b.e))) := Kp.mk (Bl.mk (below_setR HB.out.below bs0 b))
                have HX : Kp (Rq w (w.heap.size) k l y ((((v14.setCell ⟨gH6, 0, none⟩ (.int .i8 b.f)).setCell ⟨gH6, 1, none⟩ (.int .i64 b.d)).setCell ⟨gH6, 2, none⟩ (.int .i8 b.g)).setCell ⟨gH6, 3, none⟩ (.int .i64 b.e))) := Kp.mk (HX.out.other (fun q => NH6HX.out q.symm) bs0 b)
                have HY : Kp (Rq w (w.heap.size + 1) k' l' y' ((((v14.setCell ⟨gH6, 0, none⟩ (.int .i8 b.f)).setCell ⟨gH6, 1, none⟩ (.int .i64 b.d)).setCell ⟨gH6, 2, none⟩ (.int .i8 b.g)).setCell ⟨gH6, 3, none⟩ (.int .i64 b.e))) := Kp.mk (HY.out.other (fun q => NH6HY.out q.symm) bs0 b)
                have H5 : Kp (Ro w gH5 a ((((v14.setCell ⟨gH6, 0, none⟩ (.int .i8 b.f)).setCell ⟨gH6, 1, none⟩ (.int .i64 b.d)).setCell ⟨gH6, 2, none⟩ (.int .i8 b.g)).setCell ⟨gH6, 3, none⟩ (.int .i64 b.e))) := Kp.mk (H5.out.other (fun q => NH6H5.out q.symm) bs0 b)
                have H6 : Kp (Ro w gH6 b ((((v14.setCell ⟨gH6, 0, none⟩ (.int .i8 b.f)).setCell ⟨gH6, 1, none⟩ (.int .i64 b.d)).setCell ⟨gH6, 2, none⟩ (.int .i8 b.g)).setCell ⟨gH6, 3, none⟩ (.int .i64 b.e))) := Kp.mk (H6.out.fill b)
                clear bs0
                generalize ((((v14.setCell ⟨gH6, 0, none⟩ (.int .i8 b.f)).setCell ⟨gH6, 1, none⟩ (.int .i64 b.d)).setCell ⟨gH6, 2, none⟩ (.int .i8 b.g)).setCell ⟨gH6, 3, none⟩ (.int .i64 b.e)) = v15 at *
                refine hK.out _ _ ?_ (fun hHeld => ?_)
                · exact ⟨HX.out.c0, HX.out.c1, HX.out.c2, HY.out.c0, HY.out.c1, HY.out.c2⟩
                clear hK K
                try simp only [Act.put, List.setIfInBounds_toArray, List.set_cons_zero, List.set_cons_succ]
                refine wpAnyH_done (by kernel_rfl) ?_ _
                clear hHeld
                go_wp2_with fail
                go_meet
                exact ⟨gH5, gH6, rfl, rfl, Kp.mk H5.out.rg, Kp.mk H6.out.rg⟩
        · clear hHeld
          go_simp
          have hbl := (Below.refl v11.heap.size v11).alloc (Nat.le_refl _) (.cells #[.int .i8 0, .int .i64 0, .int .i8 0, .int .i64 0] 51)
          have H6 := Kp.mk (ro_new HB.out.below)
          have NH6H5 := Kp.mk H5.out.ne
          have NH6HX := Kp.mk HX.out.ne
          have NH6HY := Kp.mk HY.out.ne
          have HB := Kp.mk (HB.out.step hbl)
          have HX := Kp.mk (HX.out.step hbl)
          have HY := Kp.mk (HY.out.step hbl)
          have H5 := Kp.mk (H5.out.step hbl)
          clear hbl
          generalize v11.alloc (.cells #[.int .i8 0, .int .i64 0, .int .i8 0, .int .i64 0] 51) = v16 at *
          generalize v11.heap.size = gH6 at *
          refine hK.out _ _ ?_ (fun hHeld => ?_)
          · exact ⟨HX.out.c0, HX.out.c1, HX.out.c2, HY.out.c0, HY.out.c1, HY.out.c2⟩
          clear hK K
          try simp only [Act.put, List.setIfInBounds_toArray, List.set_cons_zero, List.set_cons_succ]
          refine wpAnyH_ready (rs := [3]) (by kernel_rfl) (by simp) ?_
          refine AllReadyH.cons (dropAt rfl) (fun K hK => ?_) AllReadyH.nil
          · clear hHeld
            go_simp
            go_at_call 26
            with_reducible refine (r2.out _).mono ?_
            rintro e v17 ⟨rfl, hb⟩
            have HB := Kp.mk (HB.out.step hb)
            have HX := Kp.mk (HX.out.step hb)
            have HY := Kp.mk (HY.out.step hb)
            have H5 := Kp.mk (H5.out.step hb)
            have H6 := Kp.mk (H6.out.step hb)
            clear hb
            go_wp2_with fail
            refine hK.out _ _ ?_ (fun hHeld => ?_)
            · exact ⟨HX.out.c0, HX.out.c1, HX.out.c2, HY.out.c0, HY.out.c1, HY.out.c2⟩
            clear hK K
            try simp only [Act.put, List.setIfInBounds_toArray, List.set_cons_zero, List.set_cons_succ]
            refine wpAnyH_ready (rs := [6]) (by kernel_rfl) (by simp) ?_
            refine AllReadyH.cons (dropAt rfl) (fun K hK => ?_) AllReadyH.nil
            · clear hHeld
              have k0 : v17.cell? ⟨gH5, 0, none⟩ = some (.int .i8 0) := H5.out.c0
              have l0 := H5.out.frozen 0
              have k1 : v17.cell? ⟨gH5, 1, none⟩ = some (.int .i64 0) := H5.out.c1
              have l1 := H5.out.frozen 1
              have k2 : v17.cell? ⟨gH5, 2, none⟩ = some (.int .i8 0) := H5.out.c2
              have l2 := H5.out.frozen 2
              have k3 : v17.cell? ⟨gH5, 3, none⟩ = some (.int .i64 0) := H5.out.c3
              have l3 := H5.out.frozen 3
              go_simp
              clear k0 k1 k2 k3 l0 l1 l2 l3
              have bs0 := H5.out.base
              have HB : Kp (Bl w ((((v17.setCell ⟨gH5, 0, none⟩ (.int .i8 a.f)).setCell ⟨gH5, 1, none⟩ (.int .i64 a.d)).setCell ⟨gH5, 2, none⟩ (.int .i8 a.g)).setCell ⟨gH5, 3, none⟩ (.int .i64 a.e))) := Kp.mk (Bl.mk (below_setR HB.out.below bs0 a))
              have HX : Kp (Rq w (w.heap.size) k l y ((((v17.setCell ⟨gH5, 0, none⟩ (.int .i8 a.f)).setCell ⟨gH5, 1, none⟩ (.int .i64 a.d)).setCell ⟨gH5, 2, none⟩ (.int .i8 a.g)).setCell ⟨gH5, 3, none⟩ (.int .i64 a.e))) := Kp.mk (HX.out.other (fun q => NH5HX.out q.symm) bs0 a)
              have HY : Kp (Rq w (w.heap.size + 1) k' l' y' ((((v17.setCell ⟨gH5, 0, none⟩ (.int .i8 a.f)).setCell ⟨gH5, 1, none⟩ (.int .i64 a.d)).setCell ⟨gH5, 2, none⟩ (.int .i8 a.g)).setCell ⟨gH5, 3, none⟩ (.int .i64 a.e))) := Kp.mk (HY.out.other (fun q => NH5HY.out q.symm) bs0 a)
              have H6 : Kp (Ro w gH6 zeroR ((((v17.setCell ⟨gH5, 0, none⟩ (.int .i8 a.f)).setCell ⟨gH5, 1, none⟩ (.int .i64 a.d)).setCell ⟨gH5, 2, none⟩ (.int .i8 a.g)).setCell ⟨gH5, 3, none⟩ (.int .i64 a.e))) := Kp.mk (H6.out.other (NH6H5.out) bs0 a)
              have H5 : Kp (Ro w gH5 a ((((v17.setCell ⟨gH5, 0, none⟩ (.int .i8 a.f)).setCell ⟨gH5, 1, none⟩ (.int .i64 a.d)).setCell ⟨gH5, 2, none⟩ (.int .i8 a.g)).setCell ⟨gH5, 3, none⟩ (.int .i64 a.e))) := Kp.mk (H5.out.fill a)
              clear bs0
              generalize ((((v17.setCell ⟨gH5, 0, none⟩ (.int .i8 a.f)).setCell ⟨gH5, 1, none⟩ (.int .i64 a.d)).setCell ⟨gH5, 2, none⟩ (.int .i8 a.g)).setCell ⟨gH5, 3, none⟩ (.int .i64 a.e)) = v18 at *
              refine hK.out _ _ ?_ (fun hHeld => ?_)
              · exact ⟨HX.out.c0, HX.out.c1, HX.out.c2, HY.out.c0, HY.out.c1, HY.out.c2⟩
              clear hK K
              try simp only [Act.put, List.setIfInBounds_toArray, List.set_cons_zero, List.set_cons_succ]
              refine wpAnyH_ready (rs := [7]) (by kernel_rfl) (by simp) ?_
              refine AllReadyH.cons (dropAt rfl) (fun K hK => ?_) AllReadyH.nil
              · clear hHeld
                have k0 : v18.cell? ⟨gH6, 0, none⟩ = some (.int .i8 0) := H6.out.c0
                have l0 := H6.out.frozen 0
                have k1 : v18.cell? ⟨gH6, 1, none⟩ = some (.int .i64 0) := H6.out.c1
                have l1 := H6.out.frozen 1
                have k2 : v18.cell? ⟨gH6, 2, none⟩ = some (.int .i8 0) := H6.out.c2
                have l2 := H6.out.frozen 2
                have k3 : v18.cell? ⟨gH6, 3, none⟩ = some (.int .i64 0) := H6.out.c3
                have l3 := H6.out.frozen 3
                go_simp
                clear k0 k1 k2 k3 l0 l1 l2 l3
                have bs0 := H6.out.base
                have HB : Kp (Bl w ((((v18.setCell ⟨gH6, 0, none⟩ (.int .i8 b.f)).setCell ⟨gH6, 1, none⟩ (.int .i64 b.d)).setCell ⟨gH6, 2, none⟩ (.int .i8 b.g)).setCell ⟨gH6, 3, none⟩ (.int .i64 b.e))) := Kp.mk (Bl.mk (below_setR HB.out.below bs0 b))
                have HX : Kp (Rq w (w.heap.size) k l y ((((v18.setCell ⟨gH6, 0, none⟩ (.int .i8 b.f)).setCell ⟨gH6, 1, none⟩ (.int .i64 b.d)).setCell ⟨gH6, 2, none⟩ (.int .i8 b.g)).setCell ⟨gH6, 3, none⟩ (.int .i64 b.e))) := Kp.mk (HX.out.other (fun q => NH6HX.out q.symm) bs0 b)
                have HY : Kp (Rq w (w.heap.size + 1) k' l' y' ((((v18.setCell ⟨gH6, 0, none⟩ (.int .i8 b.f)).setCell ⟨gH6, 1, none⟩ (.int .i64 b.d)).setCell ⟨gH6, 2, none⟩ (.int .i8 b.g)).setCell ⟨gH6, 3, none⟩ (.int .i64 b.e))) := Kp.mk (HY.out.other (fun q => NH6HY.out q.symm) bs0 b)
                have H5 : Kp (Ro w gH5 a ((((v18.setCell ⟨gH6, 0, none⟩ (.int .i8 b.f)).setCell ⟨gH6, 1, none⟩ (.int .i64 b.d)).setCell ⟨gH6, 2, none⟩ (.int .i8 b.g)).setCell ⟨gH6, 3, none⟩ (.int .i64 b.e))) := Kp.mk (H5.out.other (fun q => NH6H5.out q.symm) bs0 b)
                have H6 : Kp (Ro w gH6 b ((((v18.setCell ⟨gH6, 0, none⟩ (.int .i8 b.f)).setCell ⟨gH6, 1, none⟩ (.int .i64 b.d)).setCell ⟨gH6, 2, none⟩ (.int .i8 b.g)).setCell ⟨gH6, 3, none⟩ (.int .i64 b.e))) := Kp.mk (H6.out.fill b)
                clear bs0
                generalize ((((v18.setCell ⟨gH6, 0, none⟩ (.int .i8 b.f)).setCell ⟨gH6, 1, none⟩ (.int .i64 b.d)).setCell ⟨gH6, 2, none⟩ (.int .i8 b.g)).setCell ⟨gH6, 3, none⟩ (.int .i64 b.e)) = v19 at *
                refine hK.out _ _ ?_ (fun hHeld => ?_)
                · exact ⟨HX.out.c0, HX.out.c1, HX.out.c2, HY.out.c0, HY.out.c1, HY.out.c2⟩
                clear hK K
                try simp only [Act.put, List.setIfInBounds_toArray, List.set_cons_zero, List.set_cons_succ]
                refine wpAnyH_done (by kernel_rfl) ?_ _
                clear hHeld
                go_wp2_with fail
                go_meet
                exact ⟨gH5, gH6, rfl, rfl, Kp.mk H5.out.rg, Kp.mk H6.out.rg⟩
      · clear hHeld
        go_simp
        have hbl := (Below.refl v1.heap.size v1).alloc (Nat.le_refl _) (.cells #[.int .i8 0, .int .i64 0, .int .i8 0, .int .i64 0] 51)
        have H6 := Kp.mk (ro_new HB.out.below)
        have NH6HX := Kp.mk HX.out.ne
        have NH6HY := Kp.mk HY.out.ne
        have HB := Kp.mk (HB.out.step hbl)
        have HX := Kp.mk (HX.out.step hbl)
        have HY := Kp.mk (HY.out.step hbl)
        clear hbl
        generalize v1.alloc (.cells #[.int .i8 0, .int .i64 0, .int .i8 0, .int .i64 0] 51) = v20 at *
        generalize v1.heap.size = gH6 at *
        refine hK.out _ _ ?_ (fun hHeld => ?_)
        · exact ⟨HX.out.c0, HX.out.c1, HX.out.c2, HY.out.c0, HY.out.c1, HY.out.c2⟩
        clear hK K
        try simp only [Act.put, List.setIfInBounds_toArray, List.set_cons_zero, List.set_cons_succ]
        refine wpAnyH_ready (rs := [3, 4]) (by kernel_rfl) (by simp) ?_
        refine AllReadyH.cons (dropAt rfl) (fun K hK => ?_) (AllReadyH.cons (dropAt rfl) (fun K hK => ?_) AllReadyH.nil)
        · clear hHeld
          go_simp
          go_at_call 26
          with_reducible refine (r2.out _).mono ?_
          rintro e v21 ⟨rfl, hb⟩
          have HB := Kp.mk (HB.out.step hb)
          have HX := Kp.mk (HX.out.step hb)
          have HY := Kp.mk (HY.out.step hb)
          have H6 := Kp.mk (H6.out.step hb)
          clear hb
          go_wp2_with fail
          refine hK.out _ _ ?_ (fun hHeld => ?_)
          · exact ⟨HX.out.c0, HX.out.c1, HX.out.c2, HY.out.c0, HY.out.c1, HY.out.c2⟩
          clear hK K
          try simp only [Act.put, List.setIfInBounds_toArray, List.set_cons_zero, List.set_cons_succ]
          refine wpAnyH_ready (rs := [4]) (by kernel_rfl) (by simp) ?_
          refine AllReadyH.cons (dropAt rfl) (fun K hK => ?_) AllReadyH.nil
          · clear hHeld
            go_simp
            have hbl := (Below.refl v21.heap.size v21).alloc (Nat.le_refl _) (.cells #[.int .i8 0, .int .i64 0, .int .i8 0, .int .i64 0] 51)
            have H5 := Kp.mk (ro_new HB.out.below)
            have NH5H6 := Kp.mk H6.out.ne
            have NH5HX := Kp.mk HX.out.ne
            have NH5HY := Kp.mk HY.out.ne
            have HB := Kp.mk (HB.out.step hbl)
            have HX := Kp.mk (HX.out.step hbl)
            have HY := Kp.mk (HY.out.step hbl)
            have H6 := Kp.mk (H6.out.step hbl)
            clear hbl
            generalize v21.alloc (.cells #[.int .i8 0, .int .i64 0, .int .i8 0, .int .i64 0] 51) = v22 at *
            generalize v21.heap.size = gH5 at *
            refine hK.out _ _ ?_ (fun hHeld => ?_)
            · exact ⟨HX.out.c0, HX.out.c1, HX.out.c2, HY.out.c0, HY.out.c1, HY.out.c2⟩
            clear hK K
            try simp only [Act.put, List.setIfInBounds_toArray, List.set_cons_zero, List.set_cons_succ]
            refine wpAnyH_ready (rs := [6]) (by kernel_rfl) (by simp) ?_
            refine AllReadyH.cons (dropAt rfl) (fun K hK => ?_) AllReadyH.nil
            · clear hHeld
              have k0 : v22.cell? ⟨gH5, 0, none⟩ = some (.int .i8 0) := H5.out.c0
              have l0 := H5.out.frozen 0
              have k1 : v22.cell? ⟨gH5, 1, none⟩ = some (.int .i64 0) := H5.out.c1
              have l1 := H5.out.frozen 1
              have k2 : v22.cell? ⟨gH5, 2, none⟩ = some (.int .i8 0) := H5.out.c2
              have l2 := H5.out.frozen 2
              have k3 : v22.cell? ⟨gH5, 3, none⟩ = some (.int .i64 0) := H5.out.c3
              have l3 := H5.out.frozen 3
              go_simp
              clear k0 k1 k2 k3 l0 l1 l2 l3
              have bs0 := H5.out.base
              have HB : Kp (Bl w ((((v22.setCell ⟨gH5, 0, none⟩ (.int .i8 a.f)).setCell ⟨gH5, 1, none⟩ (.int .i64 a.d)).setCell ⟨gH5, 2, none⟩ (.int .i8 a.g)).setCell ⟨gH5, 3, none⟩ (.int .i64 a.e))) := Kp.mk (Bl.mk (below_setR HB.out.below bs0 a))
              have HX : Kp (Rq w (w.heap.size) k l y ((((v22.setCell ⟨gH5, 0, none⟩ (.int .i8 a.f)).setCell ⟨gH5, 1, none⟩ (.int .i64 a.d)).setCell ⟨gH5, 2, none⟩ (.int .i8 a.g)).setCell ⟨gH5, 3, none⟩ (.int .i64 a.e))) := Kp.mk (HX.out.other (fun q => NH5HX.out q.symm) bs0 a)
              have HY : Kp (Rq w (w.heap.size + 1) k' l' y' ((((v22.setCell ⟨gH5, 0, none⟩ (.int .i8 a.f)).setCell ⟨gH5, 1, none⟩ (.int .i64 a.d)).setCell ⟨gH5, 2, none⟩ (.int .i8 a.g)).setCell ⟨gH5, 3, none⟩ (.int .i64 a.e))) := Kp.mk (HY.out.other (fun q => NH5HY.out q.symm) bs0 a)
              have H6 : Kp (Ro w gH6 zeroR ((((v22.setCell ⟨gH5, 0, none⟩ (.int .i8 a.f)).setCell ⟨gH5, 1, none⟩ (.int .i64 a.d)).setCell ⟨gH5, 2, none⟩ (.int .i8 a.g)).setCell ⟨gH5, 3, none⟩ (.int .i64 a.e))) := Kp.mk (H6.out.other (fun q => NH5H6.out q.symm) bs0 a)
              have H5 : Kp (Ro w gH5 a ((((v22.setCell ⟨gH5, 0, none⟩ (.int .i8 a.f)).setCell ⟨gH5, 1, none⟩ (.int .i64 a.d)).setCell ⟨gH5, 2, none⟩ (.int .i8 a.g)).setCell ⟨gH5, 3, none⟩ (.int .i64 a.e))) := Kp.mk (H5.out.fill a)
              clear bs0
              generalize ((((v22.setCell ⟨gH5, 0, none⟩ (.int .i8 a.f)).setCell ⟨gH5, 1, none⟩ (.int .i64 a.d)).setCell ⟨gH5, 2, none⟩ (.int .i8 a.g)).setCell ⟨gH5, 3, none⟩ (.int .i64 a.e)) = v23 at *
              refine hK.out _ _ ?_ (fun hHeld => ?_)
              · exact ⟨HX.out.c0, HX.out.c1, HX.out.c2, HY.out.c0, HY.out.c1, HY.out.c2⟩
              clear hK K
              try simp only [Act.put, List.setIfInBounds_toArray, List.set_cons_zero, List.set_cons_succ]
              refine wpAnyH_ready (rs := [7]) (by kernel_rfl) (by simp) ?_
              refine AllReadyH.cons (dropAt rfl) (fun K hK => ?_) AllReadyH.nil
              · clear hHeld
                have k0 : v23.cell? ⟨gH6, 0, none⟩ = some (.int .i8 0) := H6.out.c0
                have l0 := H6.out.frozen 0
                have k1 : v23.cell? ⟨gH6, 1, none⟩ = some (.int .i64 0) := H6.out.c1
                have l1 := H6.out.frozen 1
                have k2 : v23.cell? ⟨gH6, 2, none⟩ = some (.int .i8 0) := H6.out.c2
                have l2 := H6.out.frozen 2
                have k3 : v23.cell? ⟨gH6, 3, none⟩ = some (.int .i64 0) := H6.out.c3
                have l3 := H6.out.frozen 3
                go_simp
                clear k0 k1 k2 k3 l0 l1 l2 l3
                have bs0 := H6.out.base
                have HB : Kp (Bl w ((((v23.setCell ⟨gH6, 0, none⟩ (.int .i8 b.f)).setCell ⟨gH6, 1, none⟩ (.int .i64 b.d)).setCell ⟨gH6, 2, none⟩ (.int .i8 b.g)).setCell ⟨gH6, 3, none⟩ (.int .i64 b.e))) := Kp.mk (Bl.mk (below_setR HB.out.below bs0 b))
                have HX : Kp (Rq w (w.heap.size) k l y ((((v23.setCell ⟨gH6, 0, none⟩ (.int .i8 b.f)).setCell ⟨gH6, 1, none⟩ (.int .i64 b.d)).setCell ⟨gH6, 2, none⟩ (.int .i8 b.g)).setCell ⟨gH6, 3, none⟩ (.int .i64 b.e))) := Kp.mk (HX.out.other (fun q => NH6HX.out q.symm) bs0 b)
                have HY : Kp (Rq w (w.heap.size + 1) k' l' y' ((((v23.setCell ⟨gH6, 0, none⟩ (.int .i8 b.f)).setCell ⟨gH6, 1, none⟩ (.int .i64 b.d)).setCell ⟨gH6, 2, none⟩ (.int .i8 b.g)).setCell ⟨gH6, 3, none⟩ (.int .i64 b.e))) := Kp.mk (HY.out.other (fun q => NH6HY.out q.symm) bs0 b)
                have H5 : Kp (Ro w gH5 a ((((v23.setCell ⟨gH6, 0, none⟩ (.int .i8 b.f)).setCell ⟨gH6, 1, none⟩ (.int .i64 b.d)).setCell ⟨gH6, 2, none⟩ (.int .i8 b.g)).setCell ⟨gH6, 3, none⟩ (.int .i64 b.e))) := Kp.mk (H5.out.other (NH5H6.out) bs0 b)
                have H6 : Kp (Ro w gH6 b ((((v23.setCell ⟨gH6, 0, none⟩ (.int .i8 b.f)).setCell ⟨gH6, 1, none⟩ (.int .i64 b.d)).setCell ⟨gH6, 2, none⟩ (.int .i8 b.g)).setCell ⟨gH6, 3, none⟩ (.int .i64 b.e))) := Kp.mk (H6.out.fill b)
                clear bs0
                generalize ((((v23.setCell ⟨gH6, 0, none⟩ (.int .i8 b.f)).setCell ⟨gH6, 1, none⟩ (.int .i64 b.d)).setCell ⟨gH6, 2, none⟩ (.int .i8 b.g)).setCell ⟨gH6, 3, none⟩ (.int .i64 b.e)) = v24 at *
                refine hK.out _ _ ?_ (fun hHeld => ?_)
                · exact ⟨HX.out.c0, HX.out.c1, HX.out.c2, HY.out.c0, HY.out.c1, HY.out.c2⟩
                clear hK K
                try simp only [Act.put, List.setIfInBounds_toArray, List.set_cons_zero, List.set_cons_succ]
                refine wpAnyH_done (by kernel_rfl) ?_ _
                clear hHeld
                go_wp2_with fail
                go_meet
                exact ⟨gH5, gH6, rfl, rfl, Kp.mk H5.out.rg, Kp.mk H6.out.rg⟩
        · clear hHeld
          go_simp
          have hbl := (Below.refl v20.heap.size v20).alloc (Nat.le_refl _) (.cells #[.int .i8 0, .int .i64 0, .int .i8 0, .int .i64 0] 51)
          have H5 := Kp.mk (ro_new HB.out.below)
          have NH5H6 := Kp.mk H6.out.ne
          have NH5HX := Kp.mk HX.out.ne
          have NH5HY := Kp.mk HY.out.ne
          have HB := Kp.mk (HB.out.step hbl)
          have HX := Kp.mk (HX.out.step hbl)
          have HY := Kp.mk (HY.out.step hbl)
          have H6 := Kp.mk (H6.out.step hbl)
          clear hbl
          generalize v20.alloc (.cells #[.int .i8 0, .int .i64 0, .int .i8 0, .int .i64 0] 51) = v25 at *
          generalize v20.heap.size = gH5 at *
          refine hK.out _ _ ?_ (fun hHeld => ?_)
          · exact ⟨HX.out.c0, HX.out.c1, HX.out.c2, HY.out.c0, HY.out.c1, HY.out.c2⟩
          clear hK K
          try simp only [Act.put, List.setIfInBounds_toArray, List.set_cons_zero, List.set_cons_succ]
          refine wpAnyH_ready (rs := [3]) (by kernel_rfl) (by simp) ?_
          refine AllReadyH.cons (dropAt rfl) (fun K hK => ?_) AllReadyH.nil
          · clear hHeld
            go_simp
            go_at_call 26
            with_reducible refine (r2.out _).mono ?_
            rintro e v26 ⟨rfl, hb⟩
            have HB := Kp.mk (HB.out.step hb)
            have HX := Kp.mk (HX.out.step hb)
            have HY := Kp.mk (HY.out.step hb)
            have H6 := Kp.mk (H6.out.step hb)
            have H5 := Kp.mk (H5.out.step hb)
            clear hb
            go_wp2_with fail
            refine hK.out _ _ ?_ (fun hHeld => ?_)
            · exact ⟨HX.out.c0, HX.out.c1, HX.out.c2, HY.out.c0, HY.out.c1, HY.out.c2⟩
            clear hK K
            try simp only [Act.put, List.setIfInBounds_toArray, List.set_cons_zero, List.set_cons_succ]
            refine wpAnyH_ready (rs := [6]) (by kernel_rfl) (by simp) ?_
            refine AllReadyH.cons (dropAt rfl) (fun K hK => ?_) AllReadyH.nil
            · clear hHeld
              have k0 : v26.cell? ⟨gH5, 0, none⟩ = some (.int .i8 0) := H5.out.c0
              have l0 := H5.out.frozen 0
              have k1 : v26.cell? ⟨gH5, 1, none⟩ = some (.int .i64 0) := H5.out.c1
              have l1 := H5.out.frozen 1
              have k2 : v26.cell? ⟨gH5, 2, none⟩ = some (.int .i8 0) := H5.out.c2
              have l2 := H5.out.frozen 2
              have k3 : v26.cell? ⟨gH5, 3, none⟩ = some (.int .i64 0) := H5.out.c3
              have l3 := H5.out.frozen 3
              go_simp
              clear k0 k1 k2 k3 l0 l1 l2 l3
              have bs0 := H5.out.base
              have HB : Kp (Bl w ((((v26.setCell ⟨gH5, 0, none⟩ (.int .i8 a.f)).setCell ⟨gH5, 1, none⟩ (.int .i64 a.d)).setCell ⟨gH5, 2, none⟩ (.int .i8 a.g)).setCell ⟨gH5, 3, none⟩ (.int .i64 a.e))) := Kp.mk (Bl.mk (below_setR HB.out.below bs0 a))
              have HX : Kp (Rq w (w.heap.size) k l y ((((v26.setCell ⟨gH5, 0, none⟩ (.int .i8 a.f)).setCell ⟨gH5, 1, none⟩ (.int .i64 a.d)).setCell ⟨gH5, 2, none⟩ (.int .i8 a.g)).setCell ⟨gH5, 3, none⟩ (.int .i64 a.e))) := Kp.mk (HX.out.other (fun q => NH5HX.out q.symm) bs0 a)
              have HY : Kp (Rq w (w.heap.size + 1) k' l' y' ((((v26.setCell ⟨gH5, 0, none⟩ (.int .i8 a.f)).setCell ⟨gH5, 1, none⟩ (.int .i64 a.d)).setCell ⟨gH5, 2, none⟩ (.int .i8 a.g)).setCell ⟨gH5, 3, none⟩ (.int .i64 a.e))) := Kp.mk (HY.out.other (fun q => NH5HY.out q.symm) bs0 a)
              have H6 : Kp (Ro w gH6 zeroR ((((v26.setCell ⟨gH5, 0, none⟩ (.int .i8 a.f)).setCell ⟨gH5, 1, none⟩ (.int .i64 a.d)).setCell ⟨gH5, 2, none⟩ (.int .i8 a.g)).setCell ⟨gH5, 3, none⟩ (.int .i64 a.e))) := Kp.mk (H6.out.other (fun q => NH5H6.out q.symm) bs0 a)
              have H5 : Kp (Ro w gH5 a ((((v26.setCell ⟨gH5, 0, none⟩ (.int .i8 a.f)).setCell ⟨gH5, 1, none⟩ (.int .i64 a.d)).setCell ⟨gH5, 2, none⟩ (.int .i8 a.g)).setCell ⟨gH5, 3, none⟩ (.int .i64 a.e))) := Kp.mk (H5.out.fill a)
              clear bs0
              generalize ((((v26.setCell ⟨gH5, 0, none⟩ (.int .i8 a.f)).setCell ⟨gH5, 1, none⟩ (.int .i64 a.d)).setCell ⟨gH5, 2, none⟩ (.int .i8 a.g)).setCell ⟨gH5, 3, none⟩ (.int .i64 a.e)) = v27 at *
              refine hK.out _ _ ?_ (fun hHeld => ?_)
              · exact ⟨HX.out.c0, HX.out.c1, HX.out.c2, HY.out.c0, HY.out.c1, HY.out.c2⟩
              clear hK K
              try simp only [Act.put, List.setIfInBounds_toArray, List.set_cons_zero, List.set_cons_succ]
              refine wpAnyH_ready (rs := [7]) (by kernel_rfl) (by simp) ?_
              refine AllReadyH.cons (dropAt rfl) (fun K hK => ?_) AllReadyH.nil
              · clear hHeld
                have k0 : v27.cell? ⟨gH6, 0, none⟩ = some (.int .i8 0) := H6.out.c0
                have l0 := H6.out.frozen 0
                have k1 : v27.cell? ⟨gH6, 1, none⟩ = some (.int .i64 0) := H6.out.c1
                have l1 := H6.out.frozen 1
                have k2 : v27.cell? ⟨gH6, 2, none⟩ = some (.int .i8 0) := H6.out.c2
                have l2 := H6.out.frozen 2
                have k3 : v27.cell? ⟨gH6, 3, none⟩ = some (.int .i64 0) := H6.out.c3
                have l3 := H6.out.frozen 3
                go_simp
                clear k0 k1 k2 k3 l0 l1 l2 l3
                have bs0 := H6.out.base
                have HB : Kp (Bl w ((((v27.setCell ⟨gH6, 0, none⟩ (.int .i8 b.f)).setCell ⟨gH6, 1, none⟩ (.int .i64 b.d)).setCell ⟨gH6, 2, none⟩ (.int .i8 b.g)).setCell ⟨gH6, 3, none⟩ (.int .i64 b.e))) := Kp.mk (Bl.mk (below_setR HB.out.below bs0 b))
                have HX : Kp (Rq w (w.heap.size) k l y ((((v27.setCell ⟨gH6, 0, none⟩ (.int .i8 b.f)).setCell ⟨gH6, 1, none⟩ (.int .i64 b.d)).setCell ⟨gH6, 2, none⟩ (.int .i8 b.g)).setCell ⟨gH6, 3, none⟩ (.int .i64 b.e))) := Kp.mk (HX.out.other (fun q => NH6HX.out q.symm) bs0 b)
                have HY : Kp (Rq w (w.heap.size + 1) k' l' y' ((((v27.setCell ⟨gH6, 0, none⟩ (.int .i8 b.f)).setCell ⟨gH6, 1, none⟩ (.int .i64 b.d)).setCell ⟨gH6, 2, none⟩ (.int .i8 b.g)).setCell ⟨gH6, 3, none⟩ (.int .i64 b.e))) := Kp.mk (HY.out.other (fun q => NH6HY.out q.symm) bs0 b)
                have H5 : Kp (Ro w gH5 a ((((v27.setCell ⟨gH6, 0, none⟩ (.int .i8 b.f)).setCell ⟨gH6, 1, none⟩ (.int .i64 b.d)).setCell ⟨gH6, 2, none⟩ (.int .i8 b.g)).setCell ⟨gH6, 3, none⟩ (.int .i64 b.e))) := Kp.mk (H5.out.other (NH5H6.out) bs0 b)
                have H6 : Kp (Ro w gH6 b ((((v27.setCell ⟨gH6, 0, none⟩ (.int .i8 b.f)).setCell ⟨gH6, 1, none⟩ (.int .i64 b.d)).setCell ⟨gH6, 2, none⟩ (.int .i8 b.g)).setCell ⟨gH6, 3, none⟩ (.int .i64 b.e))) := Kp.mk (H6.out.fill b)
                clear bs0
                generalize ((((v27.setCell ⟨gH6, 0, none⟩ (.int .i8 b.f)).setCell ⟨gH6, 1, none⟩ (.int .i64 b.d)).setCell ⟨gH6, 2, none⟩ (.int .i8 b.g)).setCell ⟨gH6, 3, none⟩ (.int .i64 b.e)) = v28 at *
                refine hK.out _ _ ?_ (fun hHeld => ?_)
                · exact ⟨HX.out.c0, HX.out.c1, HX.out.c2, HY.out.c0, HY.out.c1, HY.out.c2⟩
                clear hK K
                try simp only [Act.put, List.setIfInBounds_toArray, List.set_cons_zero, List.set_cons_succ]
                refine wpAnyH_done (by kernel_rfl) ?_ _
                clear hHeld
                go_wp2_with fail
                go_meet
                exact ⟨gH5, gH6, rfl, rfl, Kp.mk H5.out.rg, Kp.mk H6.out.rg⟩
    · clear hHeld
      go_simp
      have hbl := (Below.refl vz.heap.size vz).alloc (Nat.le_refl _) (.cells #[.int .i8 0, .int .i64 0, .int .i8 0, .int .i64 0] 51)
      have H5 := Kp.mk (ro_new HB.out.below)
      have NH5HX := Kp.mk HX.out.ne
      have NH5HY := Kp.mk HY.out.ne
      have HB := Kp.mk (HB.out.step hbl)
      have HX := Kp.mk (HX.out.step hbl)
      have HY := Kp.mk (HY.out.step hbl)
      clear hbl
      generalize vz.alloc (.cells #[.int .i8 0, .int .i64 0, .int .i8 0, .int .i64 0] 51) = v29 at *
      generalize vz.heap.size = gH5 at *
      refine hK.out _ _ ?_ (fun hHeld => ?_)
      · exact ⟨HX.out.c0, HX.out.c1, HX.out.c2, HY.out.c0, HY.out.c1, HY.out.c2⟩
      clear hK K
      try simp only [Act.put, List.setIfInBounds_toArray, List.set_cons_zero, List.set_cons_succ]
      refine wpAnyH_ready (rs := [1, 5]) (by kernel_rfl) (by simp) ?_
      refine AllReadyH.cons (dropAt rfl) (fun K hK => ?_) (AllReadyH.cons (dropAt rfl) (fun K hK => ?_) AllReadyH.nil)
      · clear hHeld
        go_simp
        go_at_call 26
        with_reducible refine (r1.out _).mono ?_
        rintro e v30 ⟨rfl, hb⟩
        have HB := Kp.mk (HB.out.step hb)
        have HX := Kp.mk (HX.out.step hb)
        have HY := Kp.mk (HY.out.step hb)
        have H5 := Kp.mk (H5.out.step hb)
        clear hb
        go_wp2_with fail
        refine hK.out _ _ ?_ (fun hHeld => ?_)
        · exact ⟨HX.out.c0, HX.out.c1, HX.out.c2, HY.out.c0, HY.out.c1, HY.out.c2⟩
        clear hK K
        try simp only [Act.put, List.setIfInBounds_toArray, List.set_cons_zero, List.set_cons_succ]
        refine wpAnyH_ready (rs := [3, 5]) (by kernel_rfl) (by simp) ?_
        refine AllReadyH.cons (dropAt rfl) (fun K hK => ?_) (AllReadyH.cons (dropAt rfl) (fun K hK => ?_) AllReadyH.nil)
        · clear hHeld
          go_simp
          go_at_call 26
          with_reducible refine (r2.out _).mono ?_
          rintro e v31 ⟨rfl, hb⟩
          have HB := Kp.mk (HB.out.step hb)
          have HX := Kp.mk (HX.out.step hb)
          have HY := Kp.mk (HY.out.step hb)
          have H5 := Kp.mk (H5.out.step hb)
          clear hb
          go_wp2_with fail
          refine hK.out _ _ ?_ (fun hHeld => ?_)
          · exact ⟨HX.out.c0, HX.out.c1, HX.out.c2, HY.out.c0, HY.out.c1, HY.out.c2⟩
          clear hK K
          try simp only [Act.put, List.setIfInBounds_toArray, List.set_cons_zero, List.set_cons_succ]
          refine wpAnyH_ready (rs := [5]) (by kernel_rfl) (by simp) ?_
          refine AllReadyH.cons (dropAt rfl) (fun K hK => ?_) AllReadyH.nil
          · clear hHeld
            go_simp
            have hbl := (Below.refl v31.heap.size v31).alloc (Nat.le_refl _) (.cells #[.int .i8 0, .int .i64 0, .int .i8 0, .int .i64 0] 51)
            have H6 := Kp.mk (ro_new HB.out.below)
            have NH6H5 := Kp.mk H5.out.ne
            have NH6HX := Kp.mk HX.out.ne
            have NH6HY := Kp.mk HY.out.ne
            have HB := Kp.mk (HB.out.step hbl)
            have HX := Kp.mk (HX.out.step hbl)
            have HY := Kp.mk (HY.out.step hbl)
            have H5 := Kp.mk (H5.out.step hbl)
            clear hbl
            generalize v31.alloc (.cells #[.int .i8 0, .int .i64 0, .int .i8 0, .int .i64 0] 51) = v32 at *
            generalize v31.heap.size = gH6 at *
            refine hK.out _ _ ?_ (fun hHeld => ?_)
            · exact ⟨HX.out.c0, HX.out.c1, HX.out.c2, HY.out.c0, HY.out.c1, HY.out.c2⟩
            clear hK K
            try simp only [Act.put, List.setIfInBounds_toArray, List.set_cons_zero, List.set_cons_succ]
            refine wpAnyH_ready (rs := [6]) (by kernel_rfl) (by simp) ?_
            refine AllReadyH.cons (dropAt rfl) (fun K hK => ?_) AllReadyH.nil
            · clear hHeld
              have k0 : v32.cell? ⟨gH5, 0, none⟩ = some (.int .i8 0) := H5.out.c0
              have l0 := H5.out.frozen 0
              have k1 : v32.cell? ⟨gH5, 1, none⟩ = some (.int .i64 0) := H5.out.c1
              have l1 := H5.out.frozen 1
              have k2 : v32.cell? ⟨gH5, 2, none⟩ = some (.int .i8 0) := H5.out.c2
              have l2 := H5.out.frozen 2
              have k3 : v32.cell? ⟨gH5, 3, none⟩ = some (.int .i64 0) := H5.out.c3
              have l3 := H5.out.frozen 3
              go_simp
              clear k0 k1 k2 k3 l0 l1 l2 l3
              have bs0 := H5.out.base
              have HB : Kp (Bl w ((((v32.setCell ⟨gH5, 0, none⟩ (.int .i8 a.f)).setCell ⟨gH5, 1, none⟩ (.int .i64 a.d)).setCell ⟨gH5, 2, none⟩ (.int .i8 a.g)).setCell ⟨gH5, 3, none⟩ (.int .i64 a.e))) := Kp.mk (Bl.mk (below_setR HB.out.below bs0 a))
              have HX : Kp (Rq w (w.heap.size) k l y ((((v32.setCell ⟨gH5, 0, none⟩ (.int .i8 a.f)).setCell ⟨gH5, 1, none⟩ (.int .i64 a.d)).setCell ⟨gH5, 2, none⟩ (.int .i8 a.g)).setCell ⟨gH5, 3, none⟩ (.int .i64 a.e))) := Kp.mk (HX.out.other (fun q => NH5HX.out q.symm) bs0 a)
              have HY : Kp (Rq w (w.heap.size + 1) k' l' y' ((((v32.setCell ⟨gH5, 0, none⟩ (.int .i8 a.f)).setCell ⟨gH5, 1, none⟩ (.int .i64 a.d)).setCell ⟨gH5, 2, none⟩ (.int .i8 a.g)).setCell ⟨gH5, 3, none⟩ (.int .i64 a.e))) := Kp.mk (HY.out.other (fun q => NH5HY.out q.symm) bs0 a)
              have H6 : Kp (Ro w gH6 zeroR ((((v32.setCell ⟨gH5, 0, none⟩ (.int .i8 a.f)).setCell ⟨gH5, 1, none⟩ (.int .i64 a.d)).setCell ⟨gH5, 2, none⟩ (.int .i8 a.g)).setCell ⟨gH5, 3, none⟩ (.int .i64 a.e))) := Kp.mk (H6.out.other (NH6H5.out) bs0 a)
              have H5 : Kp (Ro w gH5 a ((((v32.setCell ⟨gH5, 0, none⟩ (.int .i8 a.f)).setCell ⟨gH5, 1, none⟩ (.int .i64 a.d)).setCell ⟨gH5, 2, none⟩ (.int .i8 a.g)).setCell ⟨gH5, 3, none⟩ (.int .i64 a.e))) := Kp.mk (H5.out.fill a)
              clear bs0
              generalize ((((v32.setCell ⟨gH5, 0, none⟩ (.int .i8 a.f)).setCell ⟨gH5, 1, none⟩ (.int .i64 a.d)).setCell ⟨gH5, 2, none⟩ (.int .i8 a.g)).setCell ⟨gH5, 3, none⟩ (.int .i64 a.e)) = v33 at *
              refine hK.out _ _ ?_ (fun hHeld => ?_)
              · exact ⟨HX.out.c0, HX.out.c1, HX.out.c2, HY.out.c0, HY.out.c1, HY.out.c2⟩
              clear hK K
              try simp only [Act.put, List.setIfInBounds_toArray, List.set_cons_zero, List.set_cons_succ]
              refine wpAnyH_ready (rs := [7]) (by kernel_rfl) (by simp) ?_
              refine AllReadyH.cons (dropAt rfl) (fun K hK => ?_) AllReadyH.nil
              · clear hHeld
                have k0 : v33.cell? ⟨gH6, 0, none⟩ = some (.int .i8 0) := H6.out.c0
                have l0 := H6.out.frozen 0
                have k1 : v33.cell? ⟨gH6, 1, none⟩ = some (.int .i64 0) := H6.out.c1
                have l1 := H6.out.frozen 1
                have k2 : v33.cell? ⟨gH6, 2, none⟩ = some (.int .i8 0) := H6.out.c2
                have l2 := H6.out.frozen 2
                have k3 : v33.cell? ⟨gH6, 3, none⟩ = some (.int .i64 0) := H6.out.c3
                have l3 := H6.out.frozen 3
                go_simp
                clear k0 k1 k2 k3 l0 l1 l2 l3
                have bs0 := H6.out.base
                have HB : Kp (Bl w ((((v33.setCell ⟨gH6, 0, none⟩ (.int .i8 b.f)).setCell ⟨gH6, 1, none⟩ (.int .i64 b.d)).setCell ⟨gH6, 2, none⟩ (.int .i8 b.g)).setCell ⟨gH6, 3, none⟩ (.int .i64 b.e))) := Kp.mk (Bl.mk (below_setR HB.out.below bs0 b))
                have HX : Kp (Rq w (w.heap.size) k l y ((((v33.setCell ⟨gH6, 0, none⟩ (.int .i8 b.f)).setCell ⟨gH6, 1, none⟩ (.int .i64 b.d)).setCell ⟨gH6, 2, none⟩ (.int .i8 b.g)).setCell ⟨gH6, 3, none⟩ (.int .i64 b.e))) := Kp.mk (HX.out.other (fun q => NH6HX.out q.symm) bs0 b)
                have HY : Kp (Rq w (w.heap.size + 1) k' l' y' ((((v33.setCell ⟨gH6, 0, none⟩ (.int .i8 b.f)).setCell ⟨gH6, 1, none⟩ (.int .i64 b.d)).setCell ⟨gH6, 2, none⟩ (.int .i8 b.g)).setCell ⟨gH6, 3, none⟩ (.int .i64 b.e))) := Kp.mk (HY.out.other (fun q => NH6HY.out q.symm) bs0 b)
                have H5 : Kp (Ro w gH5 a ((((v33.setCell ⟨gH6, 0, none⟩ (.int .i8 b.f)).setCell ⟨gH6, 1, none⟩ (.int .i64 b.d)).setCell ⟨gH6, 2, none⟩ (.int .i8 b.g)).setCell ⟨gH6, 3, none⟩ (.int .i64 b.e))) := Kp.mk (H5.out.other (fun q => NH6H5.out q.symm) bs0 b)
                have H6 : Kp (Ro w gH6 b ((((v33.setCell ⟨gH6, 0, none⟩ (.int .i8 b.f)).setCell ⟨gH6, 1, none⟩ (.int .i64 b.d)).setCell ⟨gH6, 2, none⟩ (.int .i8 b.g)).setCell ⟨gH6, 3, none⟩ (.int .i64 b.e))) := Kp.mk (H6.out.fill b)
                clear bs0
                generalize ((((v33.setCell ⟨gH6, 0, none⟩ (.int .i8 b.f)).setCell ⟨gH6, 1, none⟩ (.int .i64 b.d)).setCell ⟨gH6, 2, none⟩ (.int .i8 b.g)).setCell ⟨gH6, 3, none⟩ (.int .i64 b.e)) = v34 at *
                refine hK.out _ _ ?_ (fun hHeld => ?_)
                · exact ⟨HX.out.c0, HX.out.c1, HX.out.c2, HY.out.c0, HY.out.c1, HY.out.c2⟩
                clear hK K
                try simp only [Act.put, List.setIfInBounds_toArray, List.set_cons_zero, List.set_cons_succ]
                refine wpAnyH_done (by kernel_rfl) ?_ _
                clear hHeld
                go_wp2_with fail
                go_meet
                exact ⟨gH5, gH6, rfl, rfl, Kp.mk H5.out.rg, Kp.mk H6.out.rg⟩
        · clear hHeld
          go_simp
          have hbl := (Below.refl v30.heap.size v30).alloc (Nat.le_refl _) (.cells #[.int .i8 0, .int .i64 0, .int .i8 0, .int .i64 0] 51)
          have H6 := Kp.mk (ro_new HB.out.below)
          have NH6H5 := Kp.mk H5.out.ne
          have NH6HX := Kp.mk HX.out.ne
          have NH6HY := Kp.mk HY.out.ne
          have HB := Kp.mk (HB.out.step hbl)
          have HX := Kp.mk (HX.out.step hbl)
          have HY := Kp.mk (HY.out.step hbl)
          have H5 := Kp.mk (H5.out.step hbl)
          clear hbl
          generalize v30.alloc (.cells #[.int .i8 0, .int .i64 0, .int .i8 0, .int .i64 0] 51) = v35 at *
          generalize v30.heap.size = gH6 at *
          refine hK.out _ _ ?_ (fun hHeld => ?_)
          · exact ⟨HX.out.c0, HX.out.c1, HX.out.c2, HY.out.c0, HY.out.c1, HY.out.c2⟩
          clear hK K
          try simp only [Act.put, List.setIfInBounds_toArray, List.set_cons_zero, List.set_cons_succ]
          refine wpAnyH_ready (rs := [3]) (by kernel_rfl) (by simp) ?_
          refine AllReadyH.cons (dropAt rfl) (fun K hK => ?_) AllReadyH.nil
          · clear hHeld
            go_simp
            go_at_call 26
            with_reducible refine (r2.out _).mono ?_
            rintro e v36 ⟨rfl, hb⟩
            have HB := Kp.mk (HB.out.step hb)
            have HX := Kp.mk (HX.out.step hb)
            have HY := Kp.mk (HY.out.step hb)
            have H5 := Kp.mk (H5.out.step hb)
            have H6 := Kp.mk (H6.out.step hb)
            clear hb
            go_wp2_with fail
            refine hK.out _ _ ?_ (fun hHeld => ?_)
            · exact ⟨HX.out.c0, HX.out.c1, HX.out.c2, HY.out.c0, HY.out.c1, HY.out.c2⟩
            clear hK K
            try simp only [Act.put, List.setIfInBounds_toArray, List.set_cons_zero, List.set_cons_succ]
            refine wpAnyH_ready (rs := [6]) (by kernel_rfl) (by simp) ?_
            refine AllReadyH.cons (dropAt rfl) (fun K hK => ?_) AllReadyH.nil
            · clear hHeld
              have k0 : v36.cell? ⟨gH5, 0, none⟩ = some (.int .i8 0) := H5.out.c0
              have l0 := H5.out.frozen 0
              have k1 : v36.cell? ⟨gH5, 1, none⟩ = some (.int .i64 0) := H5.out.c1
              have l1 := H5.out.frozen 1
              have k2 : v36.cell? ⟨gH5, 2, none⟩ = some (.int .i8 0) := H5.out.c2
              have l2 := H5.out.frozen 2
              have k3 : v36.cell? ⟨gH5, 3, none⟩ = some (.int .i64 0) := H5.out.c3
              have l3 := H5.out.frozen 3
              go_simp
              clear k0 k1 k2 k3 l0 l1 l2 l3
              have bs0 := H5.out.base
              have HB : Kp (Bl w ((((v36.setCell ⟨gH5, 0, none⟩ (.int .i8 a.f)).setCell ⟨gH5, 1, none⟩ (.int .i64 a.d)).setCell ⟨gH5, 2, none⟩ (.int .i8 a.g)).setCell ⟨gH5, 3, none⟩ (.int .i64 a.e))) := Kp.mk (Bl.mk (below_setR HB.out.below bs0 a))
              have HX : Kp (Rq w (w.heap.size) k l y ((((v36.setCell ⟨gH5, 0, none⟩ (.int .i8 a.f)).setCell ⟨gH5, 1, none⟩ (.int .i64 a.d)).setCell ⟨gH5, 2, none⟩ (.int .i8 a.g)).setCell ⟨gH5, 3, none⟩ (.int .i64 a.e))) := Kp.mk (HX.out.other (fun q => NH5HX.out q.symm) bs0 a)
              have HY : Kp (Rq w (w.heap.size + 1) k' l' y' ((((v36.setCell ⟨gH5, 0, none⟩ (.int .i8 a.f)).setCell ⟨gH5, 1, none⟩ (.int .i64 a.d)).setCell ⟨gH5, 2, none⟩ (.int .i8 a.g)).setCell ⟨gH5, 3, none⟩ (.int .i64 a.e))) := Kp.mk (HY.out.other (fun q => NH5HY.out q.symm) bs0 a)
              have H6 : Kp (Ro w gH6 zeroR ((((v36.setCell ⟨gH5, 0, none⟩ (.int .i8 a.f)).setCell ⟨gH5, 1, none⟩ (.int .i64 a.d)).setCell ⟨gH5, 2, none⟩ (.int .i8 a.g)).setCell ⟨gH5, 3, none⟩ (.int .i64 a.e))) := Kp.mk (H6.out.other (NH6H5.out) bs0 a)
              have H5 : Kp (Ro w gH5 a ((((v36.setCell ⟨gH5, 0, none⟩ (.int .i8 a.f)).setCell ⟨gH5, 1, none⟩ (.int .i64 a.d)).setCell ⟨gH5, 2, none⟩ (.int .i8 a.g)).setCell ⟨gH5, 3, none⟩ (.int .i64 a.e))) := Kp.mk (H5.out.fill a)
              clear bs0
              generalize ((((v36.setCell ⟨gH5, 0, none⟩ (.int .i8 a.f)).setCell ⟨gH5, 1, none⟩ (.int .i64 a.d)).setCell ⟨gH5, 2, none⟩ (.int .i8 a.g)).setCell ⟨gH5, 3, none⟩ (.int .i64 a.e)) = v37 at *
              refine hK.out _ _ ?_ (fun hHeld => ?_)
              · exact ⟨HX.out.c0, HX.out.c1, HX.out.c2, HY.out.c0, HY.out.c1, HY.out.c2⟩
              clear hK K
              try simp only [Act.put, List.setIfInBounds_toArray, List.set_cons_zero, List.set_cons_succ]
              refine wpAnyH_ready (rs := [7]) (by kernel_rfl) (by simp) ?_
              refine AllReadyH.cons (dropAt rfl) (fun K hK => ?_) AllReadyH.nil
              · clear hHeld
                have k0 : v37.cell? ⟨gH6, 0, none⟩ = some (.int .i8 0) := H6.out.c0
                have l0 := H6.out.frozen 0
                have k1 : v37.cell? ⟨gH6, 1, none⟩ = some (.int .i64 0) := H6.out.c1
                have l1 := H6.out.frozen 1
                have k2 : v37.cell? ⟨gH6, 2, none⟩ = some (.int .i8 0) := H6.out.c2
                have l2 := H6.out.frozen 2
                have k3 : v37.cell? ⟨gH6, 3, none⟩ = some (.int .i64 0) := H6.out.c3
                have l3 := H6.out.frozen 3
                go_simp
                clear k0 k1 k2 k3 l0 l1 l2 l3
                have bs0 := H6.out.base
                have HB : Kp (Bl w ((((v37.setCell ⟨gH6, 0, none⟩ (.int .i8 b.f)).setCell ⟨gH6, 1, none⟩ (.int .i64 b.d)).setCell ⟨gH6, 2, none⟩ (.int .i8 b.g)).setCell ⟨gH6, 3, none⟩ (.int .i64 b.e))) := Kp.mk (Bl.mk (below_setR HB.out.below bs0 b))
                have HX : Kp (Rq w (w.heap.size) k l y ((((v37.setCell ⟨gH6, 0, none⟩ (.int .i8 b.f)).setCell ⟨gH6, 1, none⟩ (.int .i64 b.d)).setCell ⟨gH6, 2, none⟩ (.int .i8 b.g)).setCell ⟨gH6, 3, none⟩ (.int .i64 b.e))) := Kp.mk (HX.out.other (fun q => NH6HX.out q.symm) bs0 b)
                have HY : Kp (Rq w (w.heap.size + 1) k' l' y' ((((v37.setCell ⟨gH6, 0, none⟩ (.int .i8 b.f)).setCell ⟨gH6, 1, none⟩ (.int .i64 b.d)).setCell ⟨gH6, 2, none⟩ (.int .i8 b.g)).setCell ⟨gH6, 3, none⟩ (.int .i64 b.e))) := Kp.mk (HY.out.other (fun q => NH6HY.out q.symm) bs0 b)
                have H5 : Kp (Ro w gH5 a ((((v37.setCell ⟨gH6, 0, none⟩ (.int .i8 b.f)).setCell ⟨gH6, 1, none⟩ (.int .i64 b.d)).setCell ⟨gH6, 2, none⟩ (.int .i8 b.g)).setCell ⟨gH6, 3, none⟩ (.int .i64 b.e))) := Kp.mk (H5.out.other (fun q => NH6H5.out q.symm) bs0 b)
                have H6 : Kp (Ro w gH6 b ((((v37.setCell ⟨gH6, 0, none⟩ (.int .i8 b.f)).setCell ⟨gH6, 1, none⟩ (.int .i64 b.d)).setCell ⟨gH6, 2, none⟩ (.int .i8 b.g)).setCell ⟨gH6, 3, none⟩ (.int .i64 b.e))) := Kp.mk (H6.out.fill b)
                clear bs0
                generalize ((((v37.setCell ⟨gH6, 0, none⟩ (.int .i8 b.f)).setCell ⟨gH6, 1, none⟩ (.int .i64 b.d)).setCell ⟨gH6, 2, none⟩ (.int .i8 b.g)).setCell ⟨gH6, 3, none⟩ (.int .i64 b.e)) = v38 at *
                refine hK.out _ _ ?_ (fun hHeld => ?_)
                · exact ⟨HX.out.c0, HX.out.c1, HX.out.c2, HY.out.c0, HY.out.c1, HY.out.c2⟩
                clear hK K
                try simp only [Act.put, List.setIfInBounds_toArray, List.set_cons_zero, List.set_cons_succ]
                refine wpAnyH_done (by kernel_rfl) ?_ _
                clear hHeld
                go_wp2_with fail
                go_meet
                exact ⟨gH5, gH6, rfl, rfl, Kp.mk H5.out.rg, Kp.mk H6.out.rg⟩
      · clear hHeld
        go_simp
        have hbl := (Below.refl v29.heap.size v29).alloc (Nat.le_refl _) (.cells #[.int .i8 0, .int .i64 0, .int .i8 0, .int .i64 0] 51)
        have H6 := Kp.mk (ro_new HB.out.below)
        have NH6H5 := Kp.mk H5.out.ne
        have NH6HX := Kp.mk HX.out.ne
        have NH6HY := Kp.mk HY.out.ne
        have HB := Kp.mk (HB.out.step hbl)
        have HX := Kp.mk (HX.out.step hbl)
        have HY := Kp.mk (HY.out.step hbl)
        have H5 := Kp.mk (H5.out.step hbl)
        clear hbl
        generalize v29.alloc (.cells #[.int .i8 0, .int .i64 0, .int .i8 0, .int .i64 0] 51) = v39 at *
        generalize v29.heap.size = gH6 at *
        refine hK.out _ _ ?_ (fun hHeld => ?_)
        · exact ⟨HX.out.c0, HX.out.c1, HX.out.c2, HY.out.c0, HY.out.c1, HY.out.c2⟩
        clear hK K
        try simp only [Act.put, List.setIfInBounds_toArray, List.set_cons_zero, List.set_cons_succ]
        refine wpAnyH_ready (rs := [1]) (by kernel_rfl) (by simp) ?_
        refine AllReadyH.cons (dropAt rfl) (fun K hK => ?_) AllReadyH.nil
        · clear hHeld
          go_simp
          go_at_call 26
          with_reducible refine (r1.out _).mono ?_
          rintro e v40 ⟨rfl, hb⟩
          have HB := Kp.mk (HB.out.step hb)
          have HX := Kp.mk (HX.out.step hb)
          have HY := Kp.mk (HY.out.step hb)
          have H5 := Kp.mk (H5.out.step hb)
          have H6 := Kp.mk (H6.out.step hb)
          clear hb
          go_wp2_with fail
          refine hK.out _ _ ?_ (fun hHeld => ?_)
          · exact ⟨HX.out.c0, HX.out.c1, HX.out.c2, HY.out.c0, HY.out.c1, HY.out.c2⟩
          clear hK K
          try simp only [Act.put, List.setIfInBounds_toArray, List.set_cons_zero, List.set_cons_succ]
          refine wpAnyH_ready (rs := [3]) (by kernel_rfl) (by simp) ?_
          refine AllReadyH.cons (dropAt rfl) (fun K hK => ?_) AllReadyH.nil
          · clear hHeld
            go_simp
            go_at_call 26
            with_reducible refine (r2.out _).mono ?_
            rintro e v41 ⟨rfl, hb⟩
            have HB := Kp.mk (HB.out.step hb)
            have HX := Kp.mk (HX.out.step hb)
            have HY := Kp.mk (HY.out.step hb)
            have H5 := Kp.mk (H5.out.step hb)
            have H6 := Kp.mk (H6.out.step hb)
            clear hb
            go_wp2_with fail
            refine hK.out _ _ ?_ (fun hHeld => ?_)
            · exact ⟨HX.out.c0, HX.out.c1, HX.out.c2, HY.out.c0, HY.out.c1, HY.out.c2⟩
            clear hK K
            try simp only [Act.put, List.setIfInBounds_toArray, List.set_cons_zero, List.set_cons_succ]
            refine wpAnyH_ready (rs := [6]) (by kernel_rfl) (by simp) ?_
            refine AllReadyH.cons (dropAt rfl) (fun K hK => ?_) AllReadyH.nil
            · clear hHeld
              have k0 : v41.cell? ⟨gH5, 0, none⟩ = some (.int .i8 0) := H5.out.c0
              have l0 := H5.out.frozen 0
              have k1 : v41.cell? ⟨gH5, 1, none⟩ = some (.int .i64 0) := H5.out.c1
              have l1 := H5.out.frozen 1
              have k2 : v41.cell? ⟨gH5, 2, none⟩ = some (.int .i8 0) := H5.out.c2
              have l2 := H5.out.frozen 2
              have k3 : v41.cell? ⟨gH5, 3, none⟩ = some (.int .i64 0) := H5.out.c3
              have l3 := H5.out.frozen 3
              go_simp
              clear k0 k1 k2 k3 l0 l1 l2 l3
              have bs0 := H5.out.base
              have HB : Kp (Bl w ((((v41.setCell ⟨gH5, 0, none⟩ (.int .i8 a.f)).setCell ⟨gH5, 1, none⟩ (.int .i64 a.d)).setCell ⟨gH5, 2, none⟩ (.int .i8 a.g)).setCell ⟨gH5, 3, none⟩ (.int .i64 a.e))) := Kp.mk (Bl.mk (below_setR HB.out.below bs0 a))
              have HX : Kp (Rq w (w.heap.size) k l y ((((v41.setCell ⟨gH5, 0, none⟩ (.int .i8 a.f)).setCell ⟨gH5, 1, none⟩ (.int .i64 a.d)).setCell ⟨gH5, 2, none⟩ (.int .i8 a.g)).setCell ⟨gH5, 3, none⟩ (.int .i64 a.e))) := Kp.mk (HX.out.other (fun q => NH5HX.out q.symm) bs0 a)
              have HY : Kp (Rq w (w.heap.size + 1) k' l' y' ((((v41.setCell ⟨gH5, 0, none⟩ (.int .i8 a.f)).setCell ⟨gH5, 1, none⟩ (.int .i64 a.d)).setCell ⟨gH5, 2, none⟩ (.int .i8 a.g)).setCell ⟨gH5, 3, none⟩ (.int .i64 a.e))) := Kp.mk (HY.out.other (fun q => NH5HY.out q.symm) bs0 a)
              have H6 : Kp (Ro w gH6 zeroR ((((v41.setCell ⟨gH5, 0, none⟩ (.int .i8 a.f)).setCell ⟨gH5, 1, none⟩ (.int .i64 a.d)).setCell ⟨gH5, 2, none⟩ (.int .i8 a.g)).setCell ⟨gH5, 3, none⟩ (.int .i64 a.e))) := Kp.mk (H6.out.other (NH6H5.out) bs0 a)
              have H5 : Kp (Ro w gH5 a ((((v41.setCell ⟨gH5, 0, none⟩ (.int .i8 a.f)).setCell ⟨gH5, 1, none⟩ (.int .i64 a.d)).setCell ⟨gH5, 2, none⟩ (.int .i8 a.g)).setCell ⟨gH5, 3, none⟩ (.int .i64 a.e))) := Kp.mk (H5.out.fill a)
              clear bs0
              generalize ((((v41.setCell ⟨gH5, 0, none⟩ (.int .i8 a.f)).setCell ⟨gH5, 1, none⟩ (.int .i64 a.d)).setCell ⟨gH5, 2, none⟩ (.int .i8 a.g)).setCell ⟨gH5, 3, none⟩ (.int .i64 a.e)) = v42 at *
              refine hK.out _ _ ?_ (fun hHeld => ?_)
              · exact ⟨HX.out.c0, HX.out.c1, HX.out.c2, HY.out.c0, HY.out.c1, HY.out.c2⟩
              clear hK K
              try simp only [Act.put, List.setIfInBounds_toArray, List.set_cons_zero, List.set_cons_succ]
              refine wpAnyH_ready (rs := [7]) (by kernel_rfl) (by simp) ?_
              refine AllReadyH.cons (dropAt rfl) (fun K hK => ?_) AllReadyH.nil
              · clear hHeld
                have k0 : v42.cell? ⟨gH6, 0, none⟩ = some (.int .i8 0) := H6.out.c0
                have l0 := H6.out.frozen 0
                have k1 : v42.cell? ⟨gH6, 1, none⟩ = some (.int .i64 0) := H6.out.c1
                have l1 := H6.out.frozen 1
                have k2 : v42.cell? ⟨gH6, 2, none⟩ = some (.int .i8 0) := H6.out.c2
                have l2 := H6.out.frozen 2
                have k3 : v42.cell? ⟨gH6, 3, none⟩ = some (.int .i64 0) := H6.out.c3
                have l3 := H6.out.frozen 3
                go_simp
                clear k0 k1 k2 k3 l0 l1 l2 l3
                have bs0 := H6.out.base
                have HB : Kp (Bl w ((((v42.setCell ⟨gH6, 0, none⟩ (.int .i8 b.f)).setCell ⟨gH6, 1, none⟩ (.int .i64 b.d)).setCell ⟨gH6, 2, none⟩ (.int .i8 b.g)).setCell ⟨gH6, 3, none⟩ (.int .i64 b.e))) := Kp.mk (Bl.mk (below_setR HB.out.below bs0 b))
                have HX : Kp (Rq w (w.heap.size) k l y ((((v42.setCell ⟨gH6, 0, none⟩ (.int .i8 b.f)).setCell ⟨gH6, 1, none⟩ (.int .i64 b.d)).setCell ⟨gH6, 2, none⟩ (.int .i8 b.g)).setCell ⟨gH6, 3, none⟩ (.int .i64 b.e))) := Kp.mk (HX.out.other (fun q => NH6HX.out q.symm) bs0 b)
                have HY : Kp (Rq w (w.heap.size + 1) k' l' y' ((((v42.setCell ⟨gH6, 0, none⟩ (.int .i8 b.f)).setCell ⟨gH6, 1, none⟩ (.int .i64 b.d)).setCell ⟨gH6, 2, none⟩ (.int .i8 b.g)).setCell ⟨gH6, 3, none⟩ (.int .i64 b.e))) := Kp.mk (HY.out.other (fun q => NH6HY.out q.symm) bs0 b)
                have H5 : Kp (Ro w gH5 a ((((v42.setCell ⟨gH6, 0, none⟩ (.int .i8 b.f)).setCell ⟨gH6, 1, none⟩ (.int .i64 b.d)).setCell ⟨gH6, 2, none⟩ (.int .i8 b.g)).setCell ⟨gH6, 3, none⟩ (.int .i64 b.e))) := Kp.mk (H5.out.other (fun q => NH6H5.out q.symm) bs0 b)
                have H6 : Kp (Ro w gH6 b ((((v42.setCell ⟨gH6, 0, none⟩ (.int .i8 b.f)).setCell ⟨gH6, 1, none⟩ (.int .i64 b.d)).setCell ⟨gH6, 2, none⟩ (.int .i8 b.g)).setCell ⟨gH6, 3, none⟩ (.int .i64 b.e))) := Kp.mk (H6.out.fill b)
                clear bs0
                generalize ((((v42.setCell ⟨gH6, 0, none⟩ (.int .i8 b.f)).setCell ⟨gH6, 1, none⟩ (.int .i64 b.d)).setCell ⟨gH6, 2, none⟩ (.int .i8 b.g)).setCell ⟨gH6, 3, none⟩ (.int .i64 b.e)) = v43 at *
                refine hK.out _ _ ?_ (fun hHeld => ?_)
                · exact ⟨HX.out.c0, HX.out.c1, HX.out.c2, HY.out.c0, HY.out.c1, HY.out.c2⟩
                clear hK K
                try simp only [Act.put, List.setIfInBounds_toArray, List.set_cons_zero, List.set_cons_succ]
                refine wpAnyH_done (by kernel_rfl) ?_ _
                clear hHeld
                go_wp2_with fail
                go_meet
                exact ⟨gH5, gH6, rfl, rfl, Kp.mk H5.out.rg, Kp.mk H6.out.rg⟩
    · clear hHeld
      go_simp
      have hbl := (Below.refl vz.heap.size vz).alloc (Nat.le_refl _) (.cells #[.int .i8 0, .int .i64 0, .int .i8 0, .int .i64 0] 51)
      have H6 := Kp.mk (ro_new HB.out.below)
      have NH6HX := Kp.mk HX.out.ne
      have NH6HY := Kp.mk HY.out.ne
      have HB := Kp.mk (HB.out.step hbl)
      have HX := Kp.mk (HX.out.step hbl)
      have HY := Kp.mk (HY.out.step hbl)
      clear hbl
      generalize vz.alloc (.cells #[.int .i8 0, .int .i64 0, .int .i8 0, .int .i64 0] 51) = v44 at *
      generalize vz.heap.size = gH6 at *
      refine hK.out _ _ ?_ (fun hHeld => ?_)
      · exact ⟨HX.out.c0, HX.out.c1, HX.out.c2, HY.out.c0, HY.out.c1, HY.out.c2⟩
      clear hK K
      try simp only [Act.put, List.setIfInBounds_toArray, List.set_cons_zero, List.set_cons_succ]
      refine wpAnyH_ready (rs := [1, 4]) (by kernel_rfl) (by simp) ?_
      refine AllReadyH.cons (dropAt rfl) (fun K hK => ?_) (AllReadyH.cons (dropAt rfl) (fun K hK => ?_) AllReadyH.nil)
      · clear hHeld
        go_simp
        go_at_call 26
        with_reducible refine (r1.out _).mono ?_
        rintro e v45 ⟨rfl, hb⟩
        have HB := Kp.mk (HB.out.step hb)
        have HX := Kp.mk (HX.out.step hb)
        have HY := Kp.mk (HY.out.step hb)
        have H6 := Kp.mk (H6.out.step hb)
        clear hb
        go_wp2_with fail
        refine hK.out _ _ ?_ (fun hHeld => ?_)
        · exact ⟨HX.out.c0, HX.out.c1, HX.out.c2, HY.out.c0, HY.out.c1, HY.out.c2⟩
        clear hK K
        try simp only [Act.put, List.setIfInBounds_toArray, List.set_cons_zero, List.set_cons_succ]
        refine wpAnyH_ready (rs := [3, 4]) (by kernel_rfl) (by simp) ?_
        refine AllReadyH.cons (dropAt rfl) (fun K hK => ?_) (AllReadyH.cons (dropAt rfl) (fun K hK => ?_) AllReadyH.nil)
        · clear hHeld
          go_simp
          go_at_call 26
          with_reducible refine (r2.out _).mono ?_
          rintro e v46 ⟨rfl, hb⟩
          have HB := Kp.mk (HB.out.step hb)
          have HX := Kp.mk (HX.out.step hb)
          have HY := Kp.mk (HY.out.step hb)
          have H6 := Kp.mk (H6.out.step hb)
          clear hb
          go_wp2_with fail
          refine hK.out _ _ ?_ (fun hHeld => ?_)
          · exact ⟨HX.out.c0, HX.out.c1, HX.out.c2, HY.out.c0, HY.out.c1, HY.out.c2⟩
          clear hK K
          try simp only [Act.put, List.setIfInBounds_toArray, List.set_cons_zero, List.set_cons_succ]
          refine wpAnyH_ready (rs := [4]) (by kernel_rfl) (by simp) ?_
          refine AllReadyH.cons (dropAt rfl) (fun K hK => ?_) AllReadyH.nil
          · clear hHeld
            go_simp
            have hbl := (Below.refl v46.heap.size v46).alloc (Nat.le_refl _) (.cells #[.int .i8 0, .int .i64 0, .int .i8 0, .int .i64 0] 51)
            have H5 := Kp.mk (ro_new HB.out.below)
            have NH5H6 := Kp.mk H6.out.ne
            have NH5HX := Kp.mk HX.out.ne
            have NH5HY := Kp.mk HY.out.ne
            have HB := Kp.mk (HB.out.step hbl)
            have HX := Kp.mk (HX.out.step hbl)
            have HY := Kp.mk (HY.out.step hbl)
            have H6 := Kp.mk (H6.out.step hbl)
            clear hbl
            generalize v46.alloc (.cells #[.int .i8 0, .int .i64 0, .int .i8 0, .int .i64 0] 51) = v47 at *
            generalize v46.heap.size = gH5 at *
            refine hK.out _ _ ?_ (fun hHeld => ?_)
            · exact ⟨HX.out.c0, HX.out.c1, HX.out.c2, HY.out.c0, HY.out.c1, HY.out.c2⟩
            clear hK K
            try simp only [Act.put, List.setIfInBounds_toArray, List.set_cons_zero, List.set_cons_succ]
            refine wpAnyH_ready (rs := [6]) (by kernel_rfl) (by simp) ?_
            refine AllReadyH.cons (dropAt rfl) (fun K hK => ?_) AllReadyH.nil
            · clear hHeld
              have k0 : v47.cell? ⟨gH5, 0, none⟩ = some (.int .i8 0) := H5.out.c0
              have l0 := H5.out.frozen 0
              have k1 : v47.cell? ⟨gH5, 1, none⟩ = some (.int .i64 0) := H5.out.c1
              have l1 := H5.out.frozen 1
              have k2 : v47.cell? ⟨gH5, 2, none⟩ = some (.int .i8 0) := H5.out.c2
              have l2 := H5.out.frozen 2
              have k3 : v47.cell? ⟨gH5, 3, none⟩ = some (.int .i64 0) := H5.out.c3
              have l3 := H5.out.frozen 3
              go_simp
              clear k0 k1 k2 k3 l0 l1 l2 l3
              have bs0 := H5.out.base
              have HB : Kp (Bl w ((((v47.setCell ⟨gH5, 0, none⟩ (.int .i8 a.f)).setCell ⟨gH5, 1, none⟩ (.int .i64 a.d)).setCell ⟨gH5, 2, none⟩ (.int .i8 a.g)).setCell ⟨gH5, 3, none⟩ (.int .i64 a.e))) := Kp.mk (Bl.mk (below_setR HB.out.below bs0 a))
              have HX : Kp (Rq w (w.heap.size) k l y ((((v47.setCell ⟨gH5, 0, none⟩ (.int .i8 a.f)).setCell ⟨gH5, 1, none⟩ (.int .i64 a.d)).setCell ⟨gH5, 2, none⟩ (.int .i8 a.g)).setCell ⟨gH5, 3, none⟩ (.int .i64 a.e))) := Kp.mk (HX.out.other (fun q => NH5HX.out q.symm) bs0 a)
              have HY : Kp (Rq w (w.heap.size + 1) k' l' y' ((((v47.setCell ⟨gH5, 0, none⟩ (.int .i8 a.f)).setCell ⟨gH5, 1, none⟩ (.int .i64 a.d)).setCell ⟨gH5, 2, none⟩ (.int .i8 a.g)).setCell ⟨gH5, 3, none⟩ (.int .i64 a.e))) := Kp.mk (HY.out.other (fun q => NH5HY.out q.symm) bs0 a)
              have H6 : Kp (Ro w gH6 zeroR ((((v47.setCell ⟨gH5, 0, none⟩ (.int .i8 a.f)).setCell ⟨gH5, 1, none⟩ (.int .i64 a.d)).setCell ⟨gH5, 2, none⟩ (.int .i8 a.g)).setCell ⟨gH5, 3, none⟩ (.int .i64 a.e))) := Kp.mk (H6.out.other (fun q => NH5H6.out q.symm) bs0 a)
              have H5 : Kp (Ro w gH5 a ((((v47.setCell ⟨gH5, 0, none⟩ (.int .i8 a.f)).setCell ⟨gH5, 1, none⟩ (.int .i64 a.d)).setCell ⟨gH5, 2, none⟩ (.int .i8 a.g)).setCell ⟨gH5, 3, none⟩ (.int .i64 a.e))) := Kp.mk (H5.out.fill a)
              clear bs0
              generalize ((((v47.setCell ⟨gH5, 0, none⟩ (.int .i8 a.f)).setCell ⟨gH5, 1, none⟩ (.int .i64 a.d)).setCell ⟨gH5, 2, none⟩ (.int .i8 a.g)).setCell ⟨gH5, 3, none⟩ (.int .i64 a.e)) = v48 at *
              refine hK.out _ _ ?_ (fun hHeld => ?_)
              · exact ⟨HX.out.c0, HX.out.c1, HX.out.c2, HY.out.c0, HY.out.c1, HY.out.c2⟩
              clear hK K
              try simp only [Act.put, List.setIfInBounds_toArray, List.set_cons_zero, List.set_cons_succ]
              refine wpAnyH_ready (rs := [7]) (by kernel_rfl) (by simp) ?_
              refine AllReadyH.cons (dropAt rfl) (fun K hK => ?_) AllReadyH.nil
              · clear hHeld
                have k0 : v48.cell? ⟨gH6, 0, none⟩ = some (.int .i8 0) := H6.out.c0
                have l0 := H6.out.frozen 0
                have k1 : v48.cell? ⟨gH6, 1, none⟩ = some (.int .i64 0) := H6.out.c1
                have l1 := H6.out.frozen 1
                have k2 : v48.cell? ⟨gH6, 2, none⟩ = some (.int .i8 0) := H6.out.c2
                have l2 := H6.out.frozen 2
                have k3 : v48.cell? ⟨gH6, 3, none⟩ = some (.int .i64 0) := H6.out.c3
                have l3 := H6.out.frozen 3
                go_simp
                clear k0 k1 k2 k3 l0 l1 l2 l3
                have bs0 := H6.out.base
                have HB : Kp (Bl w ((((v48.setCell ⟨gH6, 0, none⟩ (.int .i8 b.f)).setCell ⟨gH6, 1, none⟩ (.int .i64 b.d)).setCell ⟨gH6, 2, none⟩ (.int .i8 b.g)).setCell ⟨gH6, 3, none⟩ (.int .i64 b.e))) := Kp.mk (Bl.mk (below_setR HB.out.below bs0 b))
                have HX : Kp (Rq w (w.heap.size) k l y ((((v48.setCell ⟨gH6, 0, none⟩ (.int .i8 b.f)).setCell ⟨gH6, 1, none⟩ (.int .i64 b.d)).setCell ⟨gH6, 2, none⟩ (.int .i8 b.g)).setCell ⟨gH6, 3, none⟩ (.int .i64 b.e))) := Kp.mk (HX.out.other (fun q => NH6HX.out q.symm) bs0 b)
                have HY : Kp (Rq w (w.heap.size + 1) k' l' y' ((((v48.setCell ⟨gH6, 0, none⟩ (.int .i8 b.f)).setCell ⟨gH6, 1, none⟩ (.int .i64 b.d)).setCell ⟨gH6, 2, none⟩ (.int .i8 b.g)).setCell ⟨gH6, 3, none⟩ (.int .i64 b.e))) := Kp.mk (HY.out.other (fun q => NH6HY.out q.symm) bs0 b)
                have H5 : Kp (Ro w gH5 a ((((v48.setCell ⟨gH6, 0, none⟩ (.int .i8 b.f)).setCell ⟨gH6, 1, none⟩ (.int .i64 b.d)).setCell ⟨gH6, 2, none⟩ (.int .i8 b.g)).setCell ⟨gH6, 3, none⟩ (.int .i64 b.e))) := Kp.mk (H5.out.other (NH5H6.out) bs0 b)
                have H6 : Kp (Ro w gH6 b ((((v48.setCell ⟨gH6, 0, none⟩ (.int .i8 b.f)).setCell ⟨gH6, 1, none⟩ (.int .i64 b.d)).setCell ⟨gH6, 2, none⟩ (.int .i8 b.g)).setCell ⟨gH6, 3, none⟩ (.int .i64 b.e))) := Kp.mk (H6.out.fill b)
                clear bs0
                generalize ((((v48.setCell ⟨gH6, 0, none⟩ (.int .i8 b.f)).setCell ⟨gH6, 1, none⟩ (.int .i64 b.d)).setCell ⟨gH6, 2, none⟩ (.int .i8 b.g)).setCell ⟨gH6, 3, none⟩ (.int .i64 b.e)) = v49 at *
                refine hK.out _ _ ?_ (fun hHeld => ?_)
                · exact ⟨HX.out.c0, HX.out.c1, HX.out.c2, HY.out.c0, HY.out.c1, HY.out.c2⟩
                clear hK K
                try simp only [Act.put, List.setIfInBounds_toArray, List.set_cons_zero, List.set_cons_succ]
                refine wpAnyH_done (by kernel_rfl) ?_ _
                clear hHeld
                go_wp2_with fail
                go_meet
                exact ⟨gH5, gH6, rfl, rfl, Kp.mk H5.out.rg, Kp.mk H6.out.rg⟩
        · clear hHeld
          go_simp
          have hbl := (Below.refl v45.heap.size v45).alloc (Nat.le_refl _) (.cells #[.int .i8 0, .int .i64 0, .int .i8 0, .int .i64 0] 51)
          have H5 := Kp.mk (ro_new HB.out.below)
          have NH5H6 := Kp.mk H6.out.ne
          have NH5HX := Kp.mk HX.out.ne
          have NH5HY := Kp.mk HY.out.ne
          have HB := Kp.mk (HB.out.step hbl)
          have HX := Kp.mk (HX.out.step hbl)
          have HY := Kp.mk (HY.out.step hbl)
          have H6 := Kp.mk (H6.out.step hbl)
          clear hbl
          generalize v45.alloc (.cells #[.int .i8 0, .int .i64 0, .int .i8 0, .int .i64 0] 51) = v50 at *
          generalize v45.heap.size = gH5 at *
          refine hK.out _ _ ?_ (fun hHeld => ?_)
          · exact ⟨HX.out.c0, HX.out.c1, HX.out.c2, HY.out.c0, HY.out.c1, HY.out.c2⟩
          clear hK K
          try simp only [Act.put, List.setIfInBounds_toArray, List.set_cons_zero, List.set_cons_succ]
          refine wpAnyH_ready (rs := [3]) (by kernel_rfl) (by simp) ?_
          refine AllReadyH.cons (dropAt rfl) (fun K hK => ?_) AllReadyH.nil
          · clear hHeld
            go_simp
            go_at_call 26
            with_reducible refine (r2.out _).mono ?_
            rintro e v51 ⟨rfl, hb⟩
            have HB := Kp.mk (HB.out.step hb)
            have HX := Kp.mk (HX.out.step hb)
            have HY := Kp.mk (HY.out.step hb)
            have H6 := Kp.mk (H6.out.step hb)
            have H5 := Kp.mk (H5.out.step hb)
            clear hb
            go_wp2_with fail
            refine hK.out _ _ ?_ (fun hHeld => ?_)
            · exact ⟨HX.out.c0, HX.out.c1, HX.out.c2, HY.out.c0, HY.out.c1, HY.out.c2⟩
            clear hK K
            try simp only [Act.put, List.setIfInBounds_toArray, List.set_cons_zero, List.set_cons_succ]
            refine wpAnyH_ready (rs := [6]) (by kernel_rfl) (by simp) ?_
            refine AllReadyH.cons (dropAt rfl) (fun K hK => ?_) AllReadyH.nil
            · clear hHeld
              have k0 : v51.cell? ⟨gH5, 0, none⟩ = some (.int .i8 0) := H5.out.c0
              have l0 := H5.out.frozen 0
              have k1 : v51.cell? ⟨gH5, 1, none⟩ = some (.int .i64 0) := H5.out.c1
              have l1 := H5.out.frozen 1
              have k2 : v51.cell? ⟨gH5, 2, none⟩ = some (.int .i8 0) := H5.out.c2
              have l2 := H5.out.frozen 2
              have k3 : v51.cell? ⟨gH5, 3, none⟩ = some (.int .i64 0) := H5.out.c3
              have l3 := H5.out.frozen 3
              go_simp
              clear k0 k1 k2 k3 l0 l1 l2 l3
              have bs0 := H5.out.base
              have HB : Kp (Bl w ((((v51.setCell ⟨gH5, 0, none⟩ (.int .i8 a.f)).setCell ⟨gH5, 1, none⟩ (.int .i64 a.d)).setCell ⟨gH5, 2, none⟩ (.int .i8 a.g)).setCell ⟨gH5, 3, none⟩ (.int .i64 a.e))) := Kp.mk (Bl.mk (below_setR HB.out.below bs0 a))
              have HX : Kp (Rq w (w.heap.size) k l y ((((v51.setCell ⟨gH5, 0, none⟩ (.int .i8 a.f)).setCell ⟨gH5, 1, none⟩ (.int .i64 a.d)).setCell ⟨gH5, 2, none⟩ (.int .i8 a.g)).setCell ⟨gH5, 3, none⟩ (.int .i64 a.e))) := Kp.mk (HX.out.other (fun q => NH5HX.out q.symm) bs0 a)
              have HY : Kp (Rq w (w.heap.size + 1) k' l' y' ((((v51.setCell ⟨gH5, 0, none⟩ (.int .i8 a.f)).setCell ⟨gH5, 1, none⟩ (.int .i64 a.d)).setCell ⟨gH5, 2, none⟩ (.int .i8 a.g)).setCell ⟨gH5, 3, none⟩ (.int .i64 a.e))) := Kp.mk (HY.out.other (fun q => NH5HY.out q.symm) bs0 a)
              have H6 : Kp (Ro w gH6 zeroR ((((v51.setCell ⟨gH5, 0, none⟩ (.int .i8 a.f)).setCell ⟨gH5, 1, none⟩ (.int .i64 a.d)).setCell ⟨gH5, 2, none⟩ (.int .i8 a.g)).setCell ⟨gH5, 3, none⟩ (.int .i64 a.e))) := Kp.mk (H6.out.other (fun q => NH5H6.out q.symm) bs0 a)
              have H5 : Kp (Ro w gH5 a ((((v51.setCell ⟨gH5, 0, none⟩ (.int .i8 a.f)).setCell ⟨gH5, 1, none⟩ (.int .i64 a.d)).setCell ⟨gH5, 2, none⟩ (.int .i8 a.g)).setCell ⟨gH5, 3, none⟩ (.int .i64 a.e))) := Kp.mk (H5.out.fill a)
              clear bs0
              generalize ((((v51.setCell ⟨gH5, 0, none⟩ (.int .i8 a.f)).setCell ⟨gH5, 1, none⟩ (.int .i64 a.d)).setCell ⟨gH5, 2, none⟩ (.int .i8 a.g)).setCell ⟨gH5, 3, none⟩ (.int .i64 a.e)) = v52 at *
              refine hK.out _ _ ?_ (fun hHeld => ?_)
              · exact ⟨HX.out.c0, HX.out.c1, HX.out.c2, HY.out.c0, HY.out.c1, HY.out.c2⟩
              clear hK K
              try simp only [Act.put, List.setIfInBounds_toArray, List.set_cons_zero, List.set_cons_succ]
              refine wpAnyH_ready (rs := [7]) (by kernel_rfl) (by simp) ?_
              refine AllReadyH.cons (dropAt rfl) (fun K hK => ?_) AllReadyH.nil
              · clear hHeld
                have k0 : v52.cell? ⟨gH6, 0, none⟩ = some (.int .i8 0) := H6.out.c0
                have l0 := H6.out.frozen 0
                have k1 : v52.cell? ⟨gH6, 1, none⟩ = some (.int .i64 0) := H6.out.c1
                have l1 := H6.out.frozen 1
                have k2 : v52.cell? ⟨gH6, 2, none⟩ = some (.int .i8 0) := H6.out.c2
                have l2 := H6.out.frozen 2
                have k3 : v52.cell? ⟨gH6, 3, none⟩ = some (.int .i64 0) := H6.out.c3
                have l3 := H6.out.frozen 3
                go_simp
                clear k0 k1 k2 k3 l0 l1 l2 l3
                have bs0 := H6.out.base
                have HB : Kp (Bl w ((((v52.setCell ⟨gH6, 0, none⟩ (.int .i8 b.f)).setCell ⟨gH6, 1, none⟩ (.int .i64 b.d)).setCell ⟨gH6, 2, none⟩ (.int .i8 b.g)).setCell ⟨gH6, 3, none⟩ (.int .i64 b.e))) := Kp.mk (Bl.mk (below_setR HB.out.below bs0 b))
                have HX : Kp (Rq w (w.heap.size) k l y ((((v52.setCell ⟨gH6, 0, none⟩ (.int .i8 b.f)).setCell ⟨gH6, 1, none⟩ (.int .i64 b.d)).setCell ⟨gH6, 2, none⟩ (.int .i8 b.g)).setCell ⟨gH6, 3, none⟩ (.int .i64 b.e))) := Kp.mk (HX.out.other (fun q => NH6HX.out q.symm) bs0 b)
                have HY : Kp (Rq w (w.heap.size + 1) k' l' y' ((((v52.setCell ⟨gH6, 0, none⟩ (.int .i8 b.f)).setCell ⟨gH6, 1, none⟩ (.int .i64 b.d)).setCell ⟨gH6, 2, none⟩ (.int .i8 b.g)).setCell ⟨gH6, 3, none⟩ (.int .i64 b.e))) := Kp.mk (HY.out.other (fun q => NH6HY.out q.symm) bs0 b)
                have H5 : Kp (Ro w gH5 a ((((v52.setCell ⟨gH6, 0, none⟩ (.int .i8 b.f)).setCell ⟨gH6, 1, none⟩ (.int .i64 b.d)).setCell ⟨gH6, 2, none⟩ (.int .i8 b.g)).setCell ⟨gH6, 3, none⟩ (.int .i64 b.e))) := Kp.mk (H5.out.other (NH5H6.out) bs0 b)
                have H6 : Kp (Ro w gH6 b ((((v52.setCell ⟨gH6, 0, none⟩ (.int .i8 b.f)).setCell ⟨gH6, 1, none⟩ (.int .i64 b.d)).setCell ⟨gH6, 2, none⟩ (.int .i8 b.g)).setCell ⟨gH6, 3, none⟩ (.int .i64 b.e))) := Kp.mk (H6.out.fill b)
                clear bs0
                generalize ((((v52.setCell ⟨gH6, 0, none⟩ (.int .i8 b.f)).setCell ⟨gH6, 1, none⟩ (.int .i64 b.d)).setCell ⟨gH6, 2, none⟩ (.int .i8 b.g)).setCell ⟨gH6, 3, none⟩ (.int .i64 b.e)) = v53 at *
                refine hK.out _ _ ?_ (fun hHeld => ?_)
                · exact ⟨HX.out.c0, HX.out.c1, HX.out.c2, HY.out.c0, HY.out.c1, HY.out.c2⟩
                clear hK K
                try simp only [Act.put, List.setIfInBounds_toArray, List.set_cons_zero, List.set_cons_succ]
                refine wpAnyH_done (by kernel_rfl) ?_ _
                clear hHeld
                go_wp2_with fail
                go_meet
                exact ⟨gH5, gH6, rfl, rfl, Kp.mk H5.out.rg, Kp.mk H6.out.rg⟩
      · clear hHeld
        go_simp
        have hbl := (Below.refl v44.heap.size v44).alloc (Nat.le_refl _) (.cells #[.int .i8 0, .int .i64 0, .int .i8 0, .int .i64 0] 51)
        have H5 := Kp.mk (ro_new HB.out.below)
        have NH5H6 := Kp.mk H6.out.ne
        have NH5HX := Kp.mk HX.out.ne
        have NH5HY := Kp.mk HY.out.ne
        have HB := Kp.mk (HB.out.step hbl)
        have HX := Kp.mk (HX.out.step hbl)
        have HY := Kp.mk (HY.out.step hbl)
        have H6 := Kp.mk (H6.out.step hbl)
        clear hbl
        generalize v44.alloc (.cells #[.int .i8 0, .int .i64 0, .int .i8 0, .int .i64 0] 51) = v54 at *
        generalize v44.heap.size = gH5 at *
        refine hK.out _ _ ?_ (fun hHeld => ?_)
        · exact ⟨HX.out.c0, HX.out.c1, HX.out.c2, HY.out.c0, HY.out.c1, HY.out.c2⟩
        clear hK K
        try simp only [Act.put, List.setIfInBounds_toArray, List.set_cons_zero, List.set_cons_succ]
        refine wpAnyH_ready (rs := [1]) (by kernel_rfl) (by simp) ?_
        refine AllReadyH.cons (dropAt rfl) (fun K hK => ?_) AllReadyH.nil
        · clear hHeld
          go_simp
          go_at_call 26
          with_reducible refine (r1.out _).mono ?_
          rintro e v55 ⟨rfl, hb⟩
          have HB := Kp.mk (HB.out.step hb)
          have HX := Kp.mk (HX.out.step hb)
          have HY := Kp.mk (HY.out.step hb)
          have H6 := Kp.mk (H6.out.step hb)
          have H5 := Kp.mk (H5.out.step hb)
          clear hb
          go_wp2_with fail
          refine hK.out _ _ ?_ (fun hHeld => ?_)
          · exact ⟨HX.out.c0, HX.out.c1, HX.out.c2, HY.out.c0, HY.out.c1, HY.out.c2⟩
          clear hK K
          try simp only [Act.put, List.setIfInBounds_toArray, List.set_cons_zero, List.set_cons_succ]
          refine wpAnyH_ready (rs := [3]) (by kernel_rfl) (by simp) ?_
          refine AllReadyH.cons (dropAt rfl) (fun K hK => ?_) AllReadyH.nil
          · clear hHeld
            go_simp
            go_at_call 26
            with_reducible refine (r2.out _).mono ?_
            rintro e v56 ⟨rfl, hb⟩
            have HB := Kp.mk (HB.out.step hb)
            have HX := Kp.mk (HX.out.step hb)
            have HY := Kp.mk (HY.out.step hb)
            have H6 := Kp.mk (H6.out.step hb)
            have H5 := Kp.mk (H5.out.step hb)
            clear hb
            go_wp2_with fail
            refine hK.out _ _ ?_ (fun hHeld => ?_)
            · exact ⟨HX.out.c0, HX.out.c1, HX.out.c2, HY.out.c0, HY.out.c1, HY.out.c2⟩
            clear hK K
            try simp only [Act.put, List.setIfInBounds_toArray, List.set_cons_zero, List.set_cons_succ]
            refine wpAnyH_ready (rs := [6]) (by kernel_rfl) (by simp) ?_
            refine AllReadyH.cons (dropAt rfl) (fun K hK => ?_) AllReadyH.nil
            · clear hHeld
              have k0 : v56.cell? ⟨gH5, 0, none⟩ = some (.int .i8 0) := H5.out.c0
              have l0 := H5.out.frozen 0
              have k1 : v56.cell? ⟨gH5, 1, none⟩ = some (.int .i64 0) := H5.out.c1
              have l1 := H5.out.frozen 1
              have k2 : v56.cell? ⟨gH5, 2, none⟩ = some (.int .i8 0) := H5.out.c2
              have l2 := H5.out.frozen 2
              have k3 : v56.cell? ⟨gH5, 3, none⟩ = some (.int .i64 0) := H5.out.c3
              have l3 := H5.out.frozen 3
              go_simp
              clear k0 k1 k2 k3 l0 l1 l2 l3
              have bs0 := H5.out.base
              have HB : Kp (Bl w ((((v56.setCell ⟨gH5, 0, none⟩ (.int .i8 a.f)).setCell ⟨gH5, 1, none⟩ (.int .i64 a.d)).setCell ⟨gH5, 2, none⟩ (.int .i8 a.g)).setCell ⟨gH5, 3, none⟩ (.int .i64 a.e))) := Kp.mk (Bl.mk (below_setR HB.out.below bs0 a))
              have HX : Kp (Rq w (w.heap.size) k l y ((((v56.setCell ⟨gH5, 0, none⟩ (.int .i8 a.f)).setCell ⟨gH5, 1, none⟩ (.int .i64 a.d)).setCell ⟨gH5, 2, none⟩ (.int .i8 a.g)).setCell ⟨gH5, 3, none⟩ (.int .i64 a.e))) := Kp.mk (HX.out.other (fun q => NH5HX.out q.symm) bs0 a)
              have HY : Kp (Rq w (w.heap.size + 1) k' l' y' ((((v56.setCell ⟨gH5, 0, none⟩ (.int .i8 a.f)).setCell ⟨gH5, 1, none⟩ (.int .i64 a.d)).setCell ⟨gH5, 2, none⟩ (.int .i8 a.g)).setCell ⟨gH5, 3, none⟩ (.int .i64 a.e))) := Kp.mk (HY.out.other (fun q => NH5HY.out q.symm) bs0 a)
              have H6 : Kp (Ro w gH6 zeroR ((((v56.setCell ⟨gH5, 0, none⟩ (.int .i8 a.f)).setCell ⟨gH5, 1, none⟩ (.int .i64 a.d)).setCell ⟨gH5, 2, none⟩ (.int .i8 a.g)).setCell ⟨gH5, 3, none⟩ (.int .i64 a.e))) := Kp.mk (H6.out.other (fun q => NH5H6.out q.symm) bs0 a)
              have H5 : Kp (Ro w gH5 a ((((v56.setCell ⟨gH5, 0, none⟩ (.int .i8 a.f)).setCell ⟨gH5, 1, none⟩ (.int .i64 a.d)).setCell ⟨gH5, 2, none⟩ (.int .i8 a.g)).setCell ⟨gH5, 3, none⟩ (.int .i64 a.e))) := Kp.mk (H5.out.fill a)
              clear bs0
              generalize ((((v56.setCell ⟨gH5, 0, none⟩ (.int .i8 a.f)).setCell ⟨gH5, 1, none⟩ (.int .i64 a.d)).setCell ⟨gH5, 2, none⟩ (.int .i8 a.g)).setCell ⟨gH5, 3, none⟩ (.int .i64 a.e)) = v57 at *
              refine hK.out _ _ ?_ (fun hHeld => ?_)
              · exact ⟨HX.out.c0, HX.out.c1, HX.out.c2, HY.out.c0, HY.out.c1, HY.out.c2⟩
              clear hK K
              try simp only [Act.put, List.setIfInBounds_toArray, List.set_cons_zero, List.set_cons_succ]
              refine wpAnyH_ready (rs := [7]) (by kernel_rfl) (by simp) ?_
              refine AllReadyH.cons (dropAt rfl) (fun K hK => ?_) AllReadyH.nil
              · clear hHeld
                have k0 : v57.cell? ⟨gH6, 0, none⟩ = some (.int .i8 0) := H6.out.c0
                have l0 := H6.out.frozen 0
                have k1 : v57.cell? ⟨gH6, 1, none⟩ = some (.int .i64 0) := H6.out.c1
                have l1 := H6.out.frozen 1
                have k2 : v57.cell? ⟨gH6, 2, none⟩ = some (.int .i8 0) := H6.out.c2
                have l2 := H6.out.frozen 2
                have k3 : v57.cell? ⟨gH6, 3, none⟩ = some (.int .i64 0) := H6.out.c3
                have l3 := H6.out.frozen 3
                go_simp
                clear k0 k1 k2 k3 l0 l1 l2 l3
                have bs0 := H6.out.base
                have HB : Kp (Bl w ((((v57.setCell ⟨gH6, 0, none⟩ (.int .i8 b.f)).setCell ⟨gH6, 1, none⟩ (.int .i64 b.d)).setCell ⟨gH6, 2, none⟩ (.int .i8 b.g)).setCell ⟨gH6, 3, none⟩ (.int .i64 b.e))) := Kp.mk (Bl.mk (below_setR HB.out.below bs0 b))
                have HX : Kp (Rq w (w.heap.size) k l y ((((v57.setCell ⟨gH6, 0, none⟩ (.int .i8 b.f)).setCell ⟨gH6, 1, none⟩ (.int .i64 b.d)).setCell ⟨gH6, 2, none⟩ (.int .i8 b.g)).setCell ⟨gH6, 3, none⟩ (.int .i64 b.e))) := Kp.mk (HX.out.other (fun q => NH6HX.out q.symm) bs0 b)
                have HY : Kp (Rq w (w.heap.size + 1) k' l' y' ((((v57.setCell ⟨gH6, 0, none⟩ (.int .i8 b.f)).setCell ⟨gH6, 1, none⟩ (.int .i64 b.d)).setCell ⟨gH6, 2, none⟩ (.int .i8 b.g)).setCell ⟨gH6, 3, none⟩ (.int .i64 b.e))) := Kp.mk (HY.out.other (fun q => NH6HY.out q.symm) bs0 b)
                have H5 : Kp (Ro w gH5 a ((((v57.setCell ⟨gH6, 0, none⟩ (.int .i8 b.f)).setCell ⟨gH6, 1, none⟩ (.int .i64 b.d)).setCell ⟨gH6, 2, none⟩ (.int .i8 b.g)).setCell ⟨gH6, 3, none⟩ (.int .i64 b.e))) := Kp.mk (H5.out.other (NH5H6.out) bs0 b)
                have H6 : Kp (Ro w gH6 b ((((v57.setCell ⟨gH6, 0, none⟩ (.int .i8 b.f)).setCell ⟨gH6, 1, none⟩ (.int .i64 b.d)).setCell ⟨gH6, 2, none⟩ (.int .i8 b.g)).setCell ⟨gH6, 3, none⟩ (.int .i64 b.e))) := Kp.mk (H6.out.fill b)
                clear bs0
                generalize ((((v57.setCell ⟨gH6, 0, none⟩ (.int .i8 b.f)).setCell ⟨gH6, 1, none⟩ (.int .i64 b.d)).setCell ⟨gH6, 2, none⟩ (.int .i8 b.g)).setCell ⟨gH6, 3, none⟩ (.int .i64 b.e)) = v58 at *
                refine hK.out _ _ ?_ (fun hHeld => ?_)
                · exact ⟨HX.out.c0, HX.out.c1, HX.out.c2, HY.out.c0, HY.out.c1, HY.out.c2⟩
                clear hK K
                try simp only [Act.put, List.setIfInBounds_toArray, List.set_cons_zero, List.set_cons_succ]
                refine wpAnyH_done (by kernel_rfl) ?_ _
                clear hHeld
                go_wp2_with fail
                go_meet
                exact ⟨gH5, gH6, rfl, rfl, Kp.mk H5.out.rg, Kp.mk H6.out.rg⟩
  case rest =>
    obtain ⟨g5, g6, rfl, rfl, HA, HC⟩ := hcut
    clear HX HY HB r1 r2
    have HSA := Kp.mk sa
    have HSB := Kp.mk sb
    have HCC := Kp.mk C
    clear sa sb C
    go_wp2_with fail
    go_loopw [7, 8, 9, 10, 11, 12] (fun n b' o i _ _ wr => ∃ j : Nat, j ≤ 121 ∧ i = .int .i64 (-60 + (j : Int)) ∧ n = .bool (anyTo (nearF a b) j) ∧ b' = .bool (anyTo (bothF a b) j) ∧ o = .bool (anyTo (outF a b) j) ∧ Kp (Rg w g5 a wr) ∧ Kp (Rg w g6 b wr)) (fun _ _ _ i _ _ _ => (61 - intOf i).toNat)
    case atStart => exact ⟨0, by omega, rfl, rfl, rfl, rfl, HA, HC⟩
    case round =>
      obtain ⟨j, hj, rfl, rfl, rfl, rfl, HA, HC⟩ := hrel
      have HB := Kp.mk (bl_of HA.out)
      by_cases hlt : j < 121
      · obtain ⟨d, hd⟩ : ∃ d : Int, -60 + (j : Int) = d := ⟨_, rfl⟩
        obtain ⟨d1, hd1⟩ : ∃ d : Int, -60 + (j : Int) - 1 = d := ⟨_, rfl⟩
        obtain ⟨d2, hd2⟩ : ∃ d : Int, -60 + (j : Int) + 1 = d := ⟨_, rfl⟩
        obtain ⟨vn, hvn⟩ : ∃ v, anyTo (nearF a b) j = v := ⟨_, rfl⟩
        obtain ⟨vb, hvb⟩ : ∃ v, anyTo (bothF a b) j = v := ⟨_, rfl⟩
        obtain ⟨vo, hvo⟩ : ∃ v, anyTo (outF a b) j = v := ⟨_, rfl⟩
        obtain ⟨p, hp⟩ : ∃ v, hasN a d = v := ⟨_, rfl⟩
        obtain ⟨q, hq⟩ : ∃ v, hasN b d = v := ⟨_, rfl⟩
        obtain ⟨q1, hq1⟩ : ∃ v, hasN b d1 = v := ⟨_, rfl⟩
        obtain ⟨q2, hq2⟩ : ∃ v, hasN b d2 = v := ⟨_, rfl⟩
        have SN := Kp.mk (show anyTo (nearF a b) (j + 1) = (vn || (p && (q1 || q2))) by rw [← hvn, ← hp, ← hq1, ← hq2, ← hd, ← hd1, ← hd2]; rfl)
        have SB := Kp.mk (show anyTo (bothF a b) (j + 1) = (vb || (p && q)) by rw [← hvb, ← hp, ← hq, ← hd]; rfl)
        have SO := Kp.mk (show anyTo (outF a b) (j + 1) = (vo || (p && !q)) by rw [← hvo, ← hp, ← hq, ← hd]; rfl)
        have h1 := Kp.mk (fun u (hw : Below w.heap.size w u) => HCC.out.has u (HI.out u hw) HSA.out.ok.toIn (by omega) (by omega) hp)
        have h2 := Kp.mk (fun u (hw : Below w.heap.size w u) => HCC.out.has u (HI.out u hw) HSB.out.ok.toIn (by omega) (by omega) hq)
        have h3 := Kp.mk (fun u (hw : Below w.heap.size w u) => HCC.out.has u (HI.out u hw) HSB.out.ok.toIn (by omega) (by omega) hq1)
        have h4 := Kp.mk (fun u (hw : Below w.heap.size w u) => HCC.out.has u (HI.out u hw) HSB.out.ok.toIn (by omega) (by omega) hq2)
        have tl : d ≤ 60 := by omega
        have w1 : IntKind.i64.wrap (d - 1) = d1 := by rw [show d - 1 = d1 by omega]; exact IntWalk.i64_in _ (by omega)
        have w2 : IntKind.i64.wrap (d + 1) = d2 := by rw [show d + 1 = d2 by omega]; exact IntWalk.i64_in _ (by omega)
        have HD := Kp.mk (show d2 = -60 + ((j + 1 : Nat) : Int) ∧ (61 - d2).toNat < (61 - d).toNat by omega)
        rw [hvn, hvb, hvo, hd]
        clear hd hd1 hd2 hvn hvb hvo hp hq hq1 hq2
        have kHA0 := HA.out.c0
        have kHA1 := HA.out.c1
        have kHA2 := HA.out.c2
        have kHA3 := HA.out.c3
        have kHC0 := HC.out.c0
        have kHC1 := HC.out.c1
        have kHC2 := HC.out.c2
        have kHC3 := HC.out.c3
        go_upto_region 8 with fail
        have hbl := (Below.refl wr.heap.size wr).drew
        have HBz := Kp.mk (HB.out.step hbl)
        have HAz := Kp.mk (HA.out.step hbl)
        have HCz := Kp.mk (HC.out.step hbl)
        have kHA0z := HAz.out.c0
        have kHA1z := HAz.out.c1
        have kHA2z := HAz.out.c2
        have kHA3z := HAz.out.c3
        have kHC0z := HCz.out.c0
        have kHC1z := HCz.out.c1
        have kHC2z := HCz.out.c2
        have kHC3z := HCz.out.c3
        clear hbl
        go_region_held3 (fun w' => w'.cell? ⟨g5, 0, none⟩ = some (.int .i8 a.f) ∧ w'.cell? ⟨g5, 1, none⟩ = some (.int .i64 a.d) ∧ w'.cell? ⟨g5, 2, none⟩ = some (.int .i8 a.g) ∧ w'.cell? ⟨g5, 3, none⟩ = some (.int .i64 a.e) ∧ w'.cell? ⟨g6, 0, none⟩ = some (.int .i8 b.f) ∧ w'.cell? ⟨g6, 1, none⟩ = some (.int .i64 b.d) ∧ w'.cell? ⟨g6, 2, none⟩ = some (.int .i8 b.g) ∧ w'.cell? ⟨g6, 3, none⟩ = some (.int .i64 b.e)) (first | (with_reducible exact ⟨kHA0, kHA1, kHA2, kHA3, kHC0, kHC1, kHC2, kHC3⟩) | (with_reducible exact ⟨kHA0z, kHA1z, kHA2z, kHA3z, kHC0z, kHC1z, kHC2z, kHC3z⟩) | (with_reducible exact ⟨kHA0_u1, kHA1_u1, kHA2_u1, kHA3_u1, kHC0_u1, kHC1_u1, kHC2_u1, kHC3_u1⟩) | (with_reducible exact ⟨kHA0_u2, kHA1_u2, kHA2_u2, kHA3_u2, kHC0_u2, kHC1_u2, kHC2_u2, kHC3_u2⟩) | go_keep)
          (first
            | (go_at_call 27; (with_reducible show Calls _ _ _ wr.drew _); (with_reducible refine (h1.out _ HBz.out.below).mono ?_); rintro e u1 ⟨rfl, hb⟩; have HB_u1 := Kp.mk (HBz.out.step hb); have HA_u1 := Kp.mk (HAz.out.step hb); have HC_u1 := Kp.mk (HCz.out.step hb); have kHA0_u1 := HA_u1.out.c0; have kHA1_u1 := HA_u1.out.c1; have kHA2_u1 := HA_u1.out.c2; have kHA3_u1 := HA_u1.out.c3; have kHC0_u1 := HC_u1.out.c0; have kHC1_u1 := HC_u1.out.c1; have kHC2_u1 := HC_u1.out.c2; have kHC3_u1 := HC_u1.out.c3; clear hb)
            | (go_at_call 27; (with_reducible show Calls _ _ _ u1 _); (with_reducible refine (h2.out _ HB_u1.out.below).mono ?_); rintro e u2 ⟨rfl, hb⟩; have HB_u2 := Kp.mk (HB_u1.out.step hb); have HA_u2 := Kp.mk (HA_u1.out.step hb); have HC_u2 := Kp.mk (HC_u1.out.step hb); have kHA0_u2 := HA_u2.out.c0; have kHA1_u2 := HA_u2.out.c1; have kHA2_u2 := HA_u2.out.c2; have kHA3_u2 := HA_u2.out.c3; have kHC0_u2 := HC_u2.out.c0; have kHC1_u2 := HC_u2.out.c1; have kHC2_u2 := HC_u2.out.c2; have kHC3_u2 := HC_u2.out.c3; clear hb))
        have HB := HB_u2
        have HA := HA_u2
        have HC := HC_u2
        have kHA0 := HA.out.c0
        have kHA1 := HA.out.c1
        have kHA2 := HA.out.c2
        have kHA3 := HA.out.c3
        have kHC0 := HC.out.c0
        have kHC1 := HC.out.c1
        have kHC2 := HC.out.c2
        have kHC3 := HC.out.c3
        cases vb
        · cases vo
          · cases p
            · cases q <;> cases vn
              · go_wp2_with fail
                go_roundw
                case rel =>
                  first
                    | exact ⟨j + 1, by omega, by rw [HD.out.1], by rw [SN.out]; rfl, by rw [SB.out]; rfl, by rw [SO.out]; rfl, HA, HC⟩
                    | ((repeat apply Exists.intro); exact ⟨⟨j + 1, by omega, by rw [HD.out.1], by rw [SN.out]; rfl, by rw [SB.out]; rfl, by rw [SO.out]; rfl, HA, HC⟩, rfl⟩)
                case measure => simp only [intOf]; exact HD.out.2
              · go_wp2_with fail
                go_roundw
                case rel =>
                  first
                    | exact ⟨j + 1, by omega, by rw [HD.out.1], by rw [SN.out]; rfl, by rw [SB.out]; rfl, by rw [SO.out]; rfl, HA, HC⟩
                    | ((repeat apply Exists.intro); exact ⟨⟨j + 1, by omega, by rw [HD.out.1], by rw [SN.out]; rfl, by rw [SB.out]; rfl, by rw [SO.out]; rfl, HA, HC⟩, rfl⟩)
                case measure => simp only [intOf]; exact HD.out.2
              · go_wp2_with fail
                go_roundw
                case rel =>
                  first
                    | exact ⟨j + 1, by omega, by rw [HD.out.1], by rw [SN.out]; rfl, by rw [SB.out]; rfl, by rw [SO.out]; rfl, HA, HC⟩
                    | ((repeat apply Exists.intro); exact ⟨⟨j + 1, by omega, by rw [HD.out.1], by rw [SN.out]; rfl, by rw [SB.out]; rfl, by rw [SO.out]; rfl, HA, HC⟩, rfl⟩)
                case measure => simp only [intOf]; exact HD.out.2
              · go_wp2_with fail
                go_roundw
                case rel =>
                  first
                    | exact ⟨j + 1, by omega, by rw [HD.out.1], by rw [SN.out]; rfl, by rw [SB.out]; rfl, by rw [SO.out]; rfl, HA, HC⟩
                    | ((repeat apply Exists.intro); exact ⟨⟨j + 1, by omega, by rw [HD.out.1], by rw [SN.out]; rfl, by rw [SB.out]; rfl, by rw [SO.out]; rfl, HA, HC⟩, rfl⟩)
                case measure => simp only [intOf]; exact HD.out.2
            · cases q
              · cases vn
                · cases q1
                  · go_wp2_with fail
                    refine (h3.out _ HB.out.below).mono ?_
                    rintro e u3 ⟨rfl, hbl⟩
                    clear kHA0 kHA1 kHA2 kHA3 kHC0 kHC1 kHC2 kHC3
                    have HB := Kp.mk (HB.out.step hbl)
                    have HA := Kp.mk (HA.out.step hbl)
                    have HC := Kp.mk (HC.out.step hbl)
                    clear hbl
                    have kHA0 := HA.out.c0
                    have kHA1 := HA.out.c1
                    have kHA2 := HA.out.c2
                    have kHA3 := HA.out.c3
                    have kHC0 := HC.out.c0
                    have kHC1 := HC.out.c1
                    have kHC2 := HC.out.c2
                    have kHC3 := HC.out.c3
                    go_wp2_with fail
                    refine (h4.out _ HB.out.below).mono ?_
                    rintro e u4 ⟨rfl, hbl⟩
                    clear kHA0 kHA1 kHA2 kHA3 kHC0 kHC1 kHC2 kHC3
                    have HB := Kp.mk (HB.out.step hbl)
                    have HA := Kp.mk (HA.out.step hbl)
                    have HC := Kp.mk (HC.out.step hbl)
                    clear hbl
                    have kHA0 := HA.out.c0
                    have kHA1 := HA.out.c1
                    have kHA2 := HA.out.c2
                    have kHA3 := HA.out.c3
                    have kHC0 := HC.out.c0
                    have kHC1 := HC.out.c1
                    have kHC2 := HC.out.c2
                    have kHC3 := HC.out.c3
                    go_wp2_with fail
                    go_roundw
                    case rel =>
                      first
                        | exact ⟨j + 1, by omega, by rw [HD.out.1], by rw [SN.out]; rfl, by rw [SB.out]; rfl, by rw [SO.out]; rfl, HA, HC⟩
                        | ((repeat apply Exists.intro); exact ⟨⟨j + 1, by omega, by rw [HD.out.1], by rw [SN.out]; rfl, by rw [SB.out]; rfl, by rw [SO.out]; rfl, HA, HC⟩, rfl⟩)
                    case measure => simp only [intOf]; exact HD.out.2
                  · go_wp2_with fail
                    refine (h3.out _ HB.out.below).mono ?_
                    rintro e u3 ⟨rfl, hbl⟩
                    clear kHA0 kHA1 kHA2 kHA3 kHC0 kHC1 kHC2 kHC3
                    have HB := Kp.mk (HB.out.step hbl)
                    have HA := Kp.mk (HA.out.step hbl)
                    have HC := Kp.mk (HC.out.step hbl)
                    clear hbl
                    have kHA0 := HA.out.c0
                    have kHA1 := HA.out.c1
                    have kHA2 := HA.out.c2
                    have kHA3 := HA.out.c3
                    have kHC0 := HC.out.c0
                    have kHC1 := HC.out.c1
                    have kHC2 := HC.out.c2
                    have kHC3 := HC.out.c3
                    go_wp2_with fail
                    go_roundw
                    case rel =>
                      first
                        | exact ⟨j + 1, by omega, by rw [HD.out.1], by rw [SN.out]; rfl, by rw [SB.out]; rfl, by rw [SO.out]; rfl, HA, HC⟩
                        | ((repeat apply Exists.intro); exact ⟨⟨j + 1, by omega, by rw [HD.out.1], by rw [SN.out]; rfl, by rw [SB.out]; rfl, by rw [SO.out]; rfl, HA, HC⟩, rfl⟩)
                    case measure => simp only [intOf]; exact HD.out.2
                · go_wp2_with fail
                  go_roundw
                  case rel =>
                    first
                      | exact ⟨j + 1, by omega, by rw [HD.out.1], by rw [SN.out]; rfl, by rw [SB.out]; rfl, by rw [SO.out]; rfl, HA, HC⟩
                      | ((repeat apply Exists.intro); exact ⟨⟨j + 1, by omega, by rw [HD.out.1], by rw [SN.out]; rfl, by rw [SB.out]; rfl, by rw [SO.out]; rfl, HA, HC⟩, rfl⟩)
                  case measure => simp only [intOf]; exact HD.out.2
              · cases vn
                · cases q1
                  · go_wp2_with fail
                    refine (h3.out _ HB.out.below).mono ?_
                    rintro e u3 ⟨rfl, hbl⟩
                    clear kHA0 kHA1 kHA2 kHA3 kHC0 kHC1 kHC2 kHC3
                    have HB := Kp.mk (HB.out.step hbl)
                    have HA := Kp.mk (HA.out.step hbl)
                    have HC := Kp.mk (HC.out.step hbl)
                    clear hbl
                    have kHA0 := HA.out.c0
                    have kHA1 := HA.out.c1
                    have kHA2 := HA.out.c2
                    have kHA3 := HA.out.c3
                    have kHC0 := HC.out.c0
                    have kHC1 := HC.out.c1
                    have kHC2 := HC.out.c2
                    have kHC3 := HC.out.c3
                    go_wp2_with fail
                    refine (h4.out _ HB.out.below).mono ?_
                    rintro e u4 ⟨rfl, hbl⟩
                    clear kHA0 kHA1 kHA2 kHA3 kHC0 kHC1 kHC2 kHC3
                    have HB := Kp.mk (HB.out.step hbl)
                    have HA := Kp.mk (HA.out.step hbl)
                    have HC := Kp.mk (HC.out.step hbl)
                    clear hbl
                    have kHA0 := HA.out.c0
                    have kHA1 := HA.out.c1
                    have kHA2 := HA.out.c2
                    have kHA3 := HA.out.c3
                    have kHC0 := HC.out.c0
                    have kHC1 := HC.out.c1
                    have kHC2 := HC.out.c2
                    have kHC3 := HC.out.c3
                    go_wp2_with fail
                    go_roundw
                    case rel =>
                      first
                        | exact ⟨j + 1, by omega, by rw [HD.out.1], by rw [SN.out]; rfl, by rw [SB.out]; rfl, by rw [SO.out]; rfl, HA, HC⟩
                        | ((repeat apply Exists.intro); exact ⟨⟨j + 1, by omega, by rw [HD.out.1], by rw [SN.out]; rfl, by rw [SB.out]; rfl, by rw [SO.out]; rfl, HA, HC⟩, rfl⟩)
                    case measure => simp only [intOf]; exact HD.out.2
                  · go_wp2_with fail
                    refine (h3.out _ HB.out.below).mono ?_
                    rintro e u3 ⟨rfl, hbl⟩
                    clear kHA0 kHA1 kHA2 kHA3 kHC0 kHC1 kHC2 kHC3
                    have HB := Kp.mk (HB.out.step hbl)
                    have HA := Kp.mk (HA.out.step hbl)
                    have HC := Kp.mk (HC.out.step hbl)
                    clear hbl
                    have kHA0 := HA.out.c0
                    have kHA1 := HA.out.c1
                    have kHA2 := HA.out.c2
                    have kHA3 := HA.out.c3
                    have kHC0 := HC.out.c0
                    have kHC1 := HC.out.c1
                    have kHC2 := HC.out.c2
                    have kHC3 := HC.out.c3
                    go_wp2_with fail
                    go_roundw
                    case rel =>
                      first
                        | exact ⟨j + 1, by omega, by rw [HD.out.1], by rw [SN.out]; rfl, by rw [SB.out]; rfl, by rw [SO.out]; rfl, HA, HC⟩
                        | ((repeat apply Exists.intro); exact ⟨⟨j + 1, by omega, by rw [HD.out.1], by rw [SN.out]; rfl, by rw [SB.out]; rfl, by rw [SO.out]; rfl, HA, HC⟩, rfl⟩)
                    case measure => simp only [intOf]; exact HD.out.2
                · go_wp2_with fail
                  go_roundw
                  case rel =>
                    first
                      | exact ⟨j + 1, by omega, by rw [HD.out.1], by rw [SN.out]; rfl, by rw [SB.out]; rfl, by rw [SO.out]; rfl, HA, HC⟩
                      | ((repeat apply Exists.intro); exact ⟨⟨j + 1, by omega, by rw [HD.out.1], by rw [SN.out]; rfl, by rw [SB.out]; rfl, by rw [SO.out]; rfl, HA, HC⟩, rfl⟩)
                  case measure => simp only [intOf]; exact HD.out.2
          · cases p
            · cases q <;> cases vn
              · go_wp2_with fail
                go_roundw
                case rel =>
                  first
                    | exact ⟨j + 1, by omega, by rw [HD.out.1], by rw [SN.out]; rfl, by rw [SB.out]; rfl, by rw [SO.out]; rfl, HA, HC⟩
                    | ((repeat apply Exists.intro); exact ⟨⟨j + 1, by omega, by rw [HD.out.1], by rw [SN.out]; rfl, by rw [SB.out]; rfl, by rw [SO.out]; rfl, HA, HC⟩, rfl⟩)
                case measure => simp only [intOf]; exact HD.out.2
              · go_wp2_with fail
                go_roundw
                case rel =>
                  first
                    | exact ⟨j + 1, by omega, by rw [HD.out.1], by rw [SN.out]; rfl, by rw [SB.out]; rfl, by rw [SO.out]; rfl, HA, HC⟩
                    | ((repeat apply Exists.intro); exact ⟨⟨j + 1, by omega, by rw [HD.out.1], by rw [SN.out]; rfl, by rw [SB.out]; rfl, by rw [SO.out]; rfl, HA, HC⟩, rfl⟩)
                case measure => simp only [intOf]; exact HD.out.2
              · go_wp2_with fail
                go_roundw
                case rel =>
                  first
                    | exact ⟨j + 1, by omega, by rw [HD.out.1], by rw [SN.out]; rfl, by rw [SB.out]; rfl, by rw [SO.out]; rfl, HA, HC⟩
                    | ((repeat apply Exists.intro); exact ⟨⟨j + 1, by omega, by rw [HD.out.1], by rw [SN.out]; rfl, by rw [SB.out]; rfl, by rw [SO.out]; rfl, HA, HC⟩, rfl⟩)
                case measure => simp only [intOf]; exact HD.out.2
              · go_wp2_with fail
                go_roundw
                case rel =>
                  first
                    | exact ⟨j + 1, by omega, by rw [HD.out.1], by rw [SN.out]; rfl, by rw [SB.out]; rfl, by rw [SO.out]; rfl, HA, HC⟩
                    | ((repeat apply Exists.intro); exact ⟨⟨j + 1, by omega, by rw [HD.out.1], by rw [SN.out]; rfl, by rw [SB.out]; rfl, by rw [SO.out]; rfl, HA, HC⟩, rfl⟩)
                case measure => simp only [intOf]; exact HD.out.2
            · cases q
              · cases vn
                · cases q1
                  · go_wp2_with fail
                    refine (h3.out _ HB.out.below).mono ?_
                    rintro e u3 ⟨rfl, hbl⟩
                    clear kHA0 kHA1 kHA2 kHA3 kHC0 kHC1 kHC2 kHC3
                    have HB := Kp.mk (HB.out.step hbl)
                    have HA := Kp.mk (HA.out.step hbl)
                    have HC := Kp.mk (HC.out.step hbl)
                    clear hbl
                    have kHA0 := HA.out.c0
                    have kHA1 := HA.out.c1
                    have kHA2 := HA.out.c2
                    have kHA3 := HA.out.c3
                    have kHC0 := HC.out.c0
                    have kHC1 := HC.out.c1
                    have kHC2 := HC.out.c2
                    have kHC3 := HC.out.c3
                    go_wp2_with fail
                    refine (h4.out _ HB.out.below).mono ?_
                    rintro e u4 ⟨rfl, hbl⟩
                    clear kHA0 kHA1 kHA2 kHA3 kHC0 kHC1 kHC2 kHC3
                    have HB := Kp.mk (HB.out.step hbl)
                    have HA := Kp.mk (HA.out.step hbl)
                    have HC := Kp.mk (HC.out.step hbl)
                    clear hbl
                    have kHA0 := HA.out.c0
                    have kHA1 := HA.out.c1
                    have kHA2 := HA.out.c2
                    have kHA3 := HA.out.c3
                    have kHC0 := HC.out.c0
                    have kHC1 := HC.out.c1
                    have kHC2 := HC.out.c2
                    have kHC3 := HC.out.c3
                    go_wp2_with fail
                    go_roundw
                    case rel =>
                      first
                        | exact ⟨j + 1, by omega, by rw [HD.out.1], by rw [SN.out]; rfl, by rw [SB.out]; rfl, by rw [SO.out]; rfl, HA, HC⟩
                        | ((repeat apply Exists.intro); exact ⟨⟨j + 1, by omega, by rw [HD.out.1], by rw [SN.out]; rfl, by rw [SB.out]; rfl, by rw [SO.out]; rfl, HA, HC⟩, rfl⟩)
                    case measure => simp only [intOf]; exact HD.out.2
                  · go_wp2_with fail
                    refine (h3.out _ HB.out.below).mono ?_
                    rintro e u3 ⟨rfl, hbl⟩
                    clear kHA0 kHA1 kHA2 kHA3 kHC0 kHC1 kHC2 kHC3
                    have HB := Kp.mk (HB.out.step hbl)
                    have HA := Kp.mk (HA.out.step hbl)
                    have HC := Kp.mk (HC.out.step hbl)
                    clear hbl
                    have kHA0 := HA.out.c0
                    have kHA1 := HA.out.c1
                    have kHA2 := HA.out.c2
                    have kHA3 := HA.out.c3
                    have kHC0 := HC.out.c0
                    have kHC1 := HC.out.c1
                    have kHC2 := HC.out.c2
                    have kHC3 := HC.out.c3
                    go_wp2_with fail
                    go_roundw
                    case rel =>
                      first
                        | exact ⟨j + 1, by omega, by rw [HD.out.1], by rw [SN.out]; rfl, by rw [SB.out]; rfl, by rw [SO.out]; rfl, HA, HC⟩
                        | ((repeat apply Exists.intro); exact ⟨⟨j + 1, by omega, by rw [HD.out.1], by rw [SN.out]; rfl, by rw [SB.out]; rfl, by rw [SO.out]; rfl, HA, HC⟩, rfl⟩)
                    case measure => simp only [intOf]; exact HD.out.2
                · go_wp2_with fail
                  go_roundw
                  case rel =>
                    first
                      | exact ⟨j + 1, by omega, by rw [HD.out.1], by rw [SN.out]; rfl, by rw [SB.out]; rfl, by rw [SO.out]; rfl, HA, HC⟩
                      | ((repeat apply Exists.intro); exact ⟨⟨j + 1, by omega, by rw [HD.out.1], by rw [SN.out]; rfl, by rw [SB.out]; rfl, by rw [SO.out]; rfl, HA, HC⟩, rfl⟩)
                  case measure => simp only [intOf]; exact HD.out.2
              · cases vn
                · cases q1
                  · go_wp2_with fail
                    refine (h3.out _ HB.out.below).mono ?_
                    rintro e u3 ⟨rfl, hbl⟩
                    clear kHA0 kHA1 kHA2 kHA3 kHC0 kHC1 kHC2 kHC3
                    have HB := Kp.mk (HB.out.step hbl)
                    have HA := Kp.mk (HA.out.step hbl)
                    have HC := Kp.mk (HC.out.step hbl)
                    clear hbl
                    have kHA0 := HA.out.c0
                    have kHA1 := HA.out.c1
                    have kHA2 := HA.out.c2
                    have kHA3 := HA.out.c3
                    have kHC0 := HC.out.c0
                    have kHC1 := HC.out.c1
                    have kHC2 := HC.out.c2
                    have kHC3 := HC.out.c3
                    go_wp2_with fail
                    refine (h4.out _ HB.out.below).mono ?_
                    rintro e u4 ⟨rfl, hbl⟩
                    clear kHA0 kHA1 kHA2 kHA3 kHC0 kHC1 kHC2 kHC3
                    have HB := Kp.mk (HB.out.step hbl)
                    have HA := Kp.mk (HA.out.step hbl)
                    have HC := Kp.mk (HC.out.step hbl)
                    clear hbl
                    have kHA0 := HA.out.c0
                    have kHA1 := HA.out.c1
                    have kHA2 := HA.out.c2
                    have kHA3 := HA.out.c3
                    have kHC0 := HC.out.c0
                    have kHC1 := HC.out.c1
                    have kHC2 := HC.out.c2
                    have kHC3 := HC.out.c3
                    go_wp2_with fail
                    go_roundw
                    case rel =>
                      first
                        | exact ⟨j + 1, by omega, by rw [HD.out.1], by rw [SN.out]; rfl, by rw [SB.out]; rfl, by rw [SO.out]; rfl, HA, HC⟩
                        | ((repeat apply Exists.intro); exact ⟨⟨j + 1, by omega, by rw [HD.out.1], by rw [SN.out]; rfl, by rw [SB.out]; rfl, by rw [SO.out]; rfl, HA, HC⟩, rfl⟩)
                    case measure => simp only [intOf]; exact HD.out.2
                  · go_wp2_with fail
                    refine (h3.out _ HB.out.below).mono ?_
                    rintro e u3 ⟨rfl, hbl⟩
                    clear kHA0 kHA1 kHA2 kHA3 kHC0 kHC1 kHC2 kHC3
                    have HB := Kp.mk (HB.out.step hbl)
                    have HA := Kp.mk (HA.out.step hbl)
                    have HC := Kp.mk (HC.out.step hbl)
                    clear hbl
                    have kHA0 := HA.out.c0
                    have kHA1 := HA.out.c1
                    have kHA2 := HA.out.c2
                    have kHA3 := HA.out.c3
                    have kHC0 := HC.out.c0
                    have kHC1 := HC.out.c1
                    have kHC2 := HC.out.c2
                    have kHC3 := HC.out.c3
                    go_wp2_with fail
                    go_roundw
                    case rel =>
                      first
                        | exact ⟨j + 1, by omega, by rw [HD.out.1], by rw [SN.out]; rfl, by rw [SB.out]; rfl, by rw [SO.out]; rfl, HA, HC⟩
                        | ((repeat apply Exists.intro); exact ⟨⟨j + 1, by omega, by rw [HD.out.1], by rw [SN.out]; rfl, by rw [SB.out]; rfl, by rw [SO.out]; rfl, HA, HC⟩, rfl⟩)
                    case measure => simp only [intOf]; exact HD.out.2
                · go_wp2_with fail
                  go_roundw
                  case rel =>
                    first
                      | exact ⟨j + 1, by omega, by rw [HD.out.1], by rw [SN.out]; rfl, by rw [SB.out]; rfl, by rw [SO.out]; rfl, HA, HC⟩
                      | ((repeat apply Exists.intro); exact ⟨⟨j + 1, by omega, by rw [HD.out.1], by rw [SN.out]; rfl, by rw [SB.out]; rfl, by rw [SO.out]; rfl, HA, HC⟩, rfl⟩)
                  case measure => simp only [intOf]; exact HD.out.2
        · cases vo
          · cases p
            · cases q <;> cases vn
              · go_wp2_with fail
                go_roundw
                case rel =>
                  first
                    | exact ⟨j + 1, by omega, by rw [HD.out.1], by rw [SN.out]; rfl, by rw [SB.out]; rfl, by rw [SO.out]; rfl, HA, HC⟩
                    | ((repeat apply Exists.intro); exact ⟨⟨j + 1, by omega, by rw [HD.out.1], by rw [SN.out]; rfl, by rw [SB.out]; rfl, by rw [SO.out]; rfl, HA, HC⟩, rfl⟩)
                case measure => simp only [intOf]; exact HD.out.2
              · go_wp2_with fail
                go_roundw
                case rel =>
                  first
                    | exact ⟨j + 1, by omega, by rw [HD.out.1], by rw [SN.out]; rfl, by rw [SB.out]; rfl, by rw [SO.out]; rfl, HA, HC⟩
                    | ((repeat apply Exists.intro); exact ⟨⟨j + 1, by omega, by rw [HD.out.1], by rw [SN.out]; rfl, by rw [SB.out]; rfl, by rw [SO.out]; rfl, HA, HC⟩, rfl⟩)
                case measure => simp only [intOf]; exact HD.out.2
              · go_wp2_with fail
                go_roundw
                case rel =>
                  first
                    | exact ⟨j + 1, by omega, by rw [HD.out.1], by rw [SN.out]; rfl, by rw [SB.out]; rfl, by rw [SO.out]; rfl, HA, HC⟩
                    | ((repeat apply Exists.intro); exact ⟨⟨j + 1, by omega, by rw [HD.out.1], by rw [SN.out]; rfl, by rw [SB.out]; rfl, by rw [SO.out]; rfl, HA, HC⟩, rfl⟩)
                case measure => simp only [intOf]; exact HD.out.2
              · go_wp2_with fail
                go_roundw
                case rel =>
                  first
                    | exact ⟨j + 1, by omega, by rw [HD.out.1], by rw [SN.out]; rfl, by rw [SB.out]; rfl, by rw [SO.out]; rfl, HA, HC⟩
                    | ((repeat apply Exists.intro); exact ⟨⟨j + 1, by omega, by rw [HD.out.1], by rw [SN.out]; rfl, by rw [SB.out]; rfl, by rw [SO.out]; rfl, HA, HC⟩, rfl⟩)
                case measure => simp only [intOf]; exact HD.out.2
            · cases q
              · cases vn
                · cases q1
                  · go_wp2_with fail
                    refine (h3.out _ HB.out.below).mono ?_
                    rintro e u3 ⟨rfl, hbl⟩
                    clear kHA0 kHA1 kHA2 kHA3 kHC0 kHC1 kHC2 kHC3
                    have HB := Kp.mk (HB.out.step hbl)
                    have HA := Kp.mk (HA.out.step hbl)
                    have HC := Kp.mk (HC.out.step hbl)
                    clear hbl
                    have kHA0 := HA.out.c0
                    have kHA1 := HA.out.c1
                    have kHA2 := HA.out.c2
                    have kHA3 := HA.out.c3
                    have kHC0 := HC.out.c0
                    have kHC1 := HC.out.c1
                    have kHC2 := HC.out.c2
                    have kHC3 := HC.out.c3
                    go_wp2_with fail
                    refine (h4.out _ HB.out.below).mono ?_
                    rintro e u4 ⟨rfl, hbl⟩
                    clear kHA0 kHA1 kHA2 kHA3 kHC0 kHC1 kHC2 kHC3
                    have HB := Kp.mk (HB.out.step hbl)
                    have HA := Kp.mk (HA.out.step hbl)
                    have HC := Kp.mk (HC.out.step hbl)
                    clear hbl
                    have kHA0 := HA.out.c0
                    have kHA1 := HA.out.c1
                    have kHA2 := HA.out.c2
                    have kHA3 := HA.out.c3
                    have kHC0 := HC.out.c0
                    have kHC1 := HC.out.c1
                    have kHC2 := HC.out.c2
                    have kHC3 := HC.out.c3
                    go_wp2_with fail
                    go_roundw
                    case rel =>
                      first
                        | exact ⟨j + 1, by omega, by rw [HD.out.1], by rw [SN.out]; rfl, by rw [SB.out]; rfl, by rw [SO.out]; rfl, HA, HC⟩
                        | ((repeat apply Exists.intro); exact ⟨⟨j + 1, by omega, by rw [HD.out.1], by rw [SN.out]; rfl, by rw [SB.out]; rfl, by rw [SO.out]; rfl, HA, HC⟩, rfl⟩)
                    case measure => simp only [intOf]; exact HD.out.2
                  · go_wp2_with fail
                    refine (h3.out _ HB.out.below).mono ?_
                    rintro e u3 ⟨rfl, hbl⟩
                    clear kHA0 kHA1 kHA2 kHA3 kHC0 kHC1 kHC2 kHC3
                    have HB := Kp.mk (HB.out.step hbl)
                    have HA := Kp.mk (HA.out.step hbl)
                    have HC := Kp.mk (HC.out.step hbl)
                    clear hbl
                    have kHA0 := HA.out.c0
                    have kHA1 := HA.out.c1
                    have kHA2 := HA.out.c2
                    have kHA3 := HA.out.c3
                    have kHC0 := HC.out.c0
                    have kHC1 := HC.out.c1
                    have kHC2 := HC.out.c2
                    have kHC3 := HC.out.c3
                    go_wp2_with fail
                    go_roundw
                    case rel =>
                      first
                        | exact ⟨j + 1, by omega, by rw [HD.out.1], by rw [SN.out]; rfl, by rw [SB.out]; rfl, by rw [SO.out]; rfl, HA, HC⟩
                        | ((repeat apply Exists.intro); exact ⟨⟨j + 1, by omega, by rw [HD.out.1], by rw [SN.out]; rfl, by rw [SB.out]; rfl, by rw [SO.out]; rfl, HA, HC⟩, rfl⟩)
                    case measure => simp only [intOf]; exact HD.out.2
                · go_wp2_with fail
                  go_roundw
                  case rel =>
                    first
                      | exact ⟨j + 1, by omega, by rw [HD.out.1], by rw [SN.out]; rfl, by rw [SB.out]; rfl, by rw [SO.out]; rfl, HA, HC⟩
                      | ((repeat apply Exists.intro); exact ⟨⟨j + 1, by omega, by rw [HD.out.1], by rw [SN.out]; rfl, by rw [SB.out]; rfl, by rw [SO.out]; rfl, HA, HC⟩, rfl⟩)
                  case measure => simp only [intOf]; exact HD.out.2
              · cases vn
                · cases q1
                  · go_wp2_with fail
                    refine (h3.out _ HB.out.below).mono ?_
                    rintro e u3 ⟨rfl, hbl⟩
                    clear kHA0 kHA1 kHA2 kHA3 kHC0 kHC1 kHC2 kHC3
                    have HB := Kp.mk (HB.out.step hbl)
                    have HA := Kp.mk (HA.out.step hbl)
                    have HC := Kp.mk (HC.out.step hbl)
                    clear hbl
                    have kHA0 := HA.out.c0
                    have kHA1 := HA.out.c1
                    have kHA2 := HA.out.c2
                    have kHA3 := HA.out.c3
                    have kHC0 := HC.out.c0
                    have kHC1 := HC.out.c1
                    have kHC2 := HC.out.c2
                    have kHC3 := HC.out.c3
                    go_wp2_with fail
                    refine (h4.out _ HB.out.below).mono ?_
                    rintro e u4 ⟨rfl, hbl⟩
                    clear kHA0 kHA1 kHA2 kHA3 kHC0 kHC1 kHC2 kHC3
                    have HB := Kp.mk (HB.out.step hbl)
                    have HA := Kp.mk (HA.out.step hbl)
                    have HC := Kp.mk (HC.out.step hbl)
                    clear hbl
                    have kHA0 := HA.out.c0
                    have kHA1 := HA.out.c1
                    have kHA2 := HA.out.c2
                    have kHA3 := HA.out.c3
                    have kHC0 := HC.out.c0
                    have kHC1 := HC.out.c1
                    have kHC2 := HC.out.c2
                    have kHC3 := HC.out.c3
                    go_wp2_with fail
                    go_roundw
                    case rel =>
                      first
                        | exact ⟨j + 1, by omega, by rw [HD.out.1], by rw [SN.out]; rfl, by rw [SB.out]; rfl, by rw [SO.out]; rfl, HA, HC⟩
                        | ((repeat apply Exists.intro); exact ⟨⟨j + 1, by omega, by rw [HD.out.1], by rw [SN.out]; rfl, by rw [SB.out]; rfl, by rw [SO.out]; rfl, HA, HC⟩, rfl⟩)
                    case measure => simp only [intOf]; exact HD.out.2
                  · go_wp2_with fail
                    refine (h3.out _ HB.out.below).mono ?_
                    rintro e u3 ⟨rfl, hbl⟩
                    clear kHA0 kHA1 kHA2 kHA3 kHC0 kHC1 kHC2 kHC3
                    have HB := Kp.mk (HB.out.step hbl)
                    have HA := Kp.mk (HA.out.step hbl)
                    have HC := Kp.mk (HC.out.step hbl)
                    clear hbl
                    have kHA0 := HA.out.c0
                    have kHA1 := HA.out.c1
                    have kHA2 := HA.out.c2
                    have kHA3 := HA.out.c3
                    have kHC0 := HC.out.c0
                    have kHC1 := HC.out.c1
                    have kHC2 := HC.out.c2
                    have kHC3 := HC.out.c3
                    go_wp2_with fail
                    go_roundw
                    case rel =>
                      first
                        | exact ⟨j + 1, by omega, by rw [HD.out.1], by rw [SN.out]; rfl, by rw [SB.out]; rfl, by rw [SO.out]; rfl, HA, HC⟩
                        | ((repeat apply Exists.intro); exact ⟨⟨j + 1, by omega, by rw [HD.out.1], by rw [SN.out]; rfl, by rw [SB.out]; rfl, by rw [SO.out]; rfl, HA, HC⟩, rfl⟩)
                    case measure => simp only [intOf]; exact HD.out.2
                · go_wp2_with fail
                  go_roundw
                  case rel =>
                    first
                      | exact ⟨j + 1, by omega, by rw [HD.out.1], by rw [SN.out]; rfl, by rw [SB.out]; rfl, by rw [SO.out]; rfl, HA, HC⟩
                      | ((repeat apply Exists.intro); exact ⟨⟨j + 1, by omega, by rw [HD.out.1], by rw [SN.out]; rfl, by rw [SB.out]; rfl, by rw [SO.out]; rfl, HA, HC⟩, rfl⟩)
                  case measure => simp only [intOf]; exact HD.out.2
          · cases p
            · cases q <;> cases vn
              · go_wp2_with fail
                go_roundw
                case rel =>
                  first
                    | exact ⟨j + 1, by omega, by rw [HD.out.1], by rw [SN.out]; rfl, by rw [SB.out]; rfl, by rw [SO.out]; rfl, HA, HC⟩
                    | ((repeat apply Exists.intro); exact ⟨⟨j + 1, by omega, by rw [HD.out.1], by rw [SN.out]; rfl, by rw [SB.out]; rfl, by rw [SO.out]; rfl, HA, HC⟩, rfl⟩)
                case measure => simp only [intOf]; exact HD.out.2
              · go_wp2_with fail
                go_roundw
                case rel =>
                  first
                    | exact ⟨j + 1, by omega, by rw [HD.out.1], by rw [SN.out]; rfl, by rw [SB.out]; rfl, by rw [SO.out]; rfl, HA, HC⟩
                    | ((repeat apply Exists.intro); exact ⟨⟨j + 1, by omega, by rw [HD.out.1], by rw [SN.out]; rfl, by rw [SB.out]; rfl, by rw [SO.out]; rfl, HA, HC⟩, rfl⟩)
                case measure => simp only [intOf]; exact HD.out.2
              · go_wp2_with fail
                go_roundw
                case rel =>
                  first
                    | exact ⟨j + 1, by omega, by rw [HD.out.1], by rw [SN.out]; rfl, by rw [SB.out]; rfl, by rw [SO.out]; rfl, HA, HC⟩
                    | ((repeat apply Exists.intro); exact ⟨⟨j + 1, by omega, by rw [HD.out.1], by rw [SN.out]; rfl, by rw [SB.out]; rfl, by rw [SO.out]; rfl, HA, HC⟩, rfl⟩)
                case measure => simp only [intOf]; exact HD.out.2
              · go_wp2_with fail
                go_roundw
                case rel =>
                  first
                    | exact ⟨j + 1, by omega, by rw [HD.out.1], by rw [SN.out]; rfl, by rw [SB.out]; rfl, by rw [SO.out]; rfl, HA, HC⟩
                    | ((repeat apply Exists.intro); exact ⟨⟨j + 1, by omega, by rw [HD.out.1], by rw [SN.out]; rfl, by rw [SB.out]; rfl, by rw [SO.out]; rfl, HA, HC⟩, rfl⟩)
                case measure => simp only [intOf]; exact HD.out.2
            · cases q
              · cases vn
                · cases q1
                  · go_wp2_with fail
                    refine (h3.out _ HB.out.below).mono ?_
                    rintro e u3 ⟨rfl, hbl⟩
                    clear kHA0 kHA1 kHA2 kHA3 kHC0 kHC1 kHC2 kHC3
                    have HB := Kp.mk (HB.out.step hbl)
                    have HA := Kp.mk (HA.out.step hbl)
                    have HC := Kp.mk (HC.out.step hbl)
                    clear hbl
                    have kHA0 := HA.out.c0
                    have kHA1 := HA.out.c1
                    have kHA2 := HA.out.c2
                    have kHA3 := HA.out.c3
                    have kHC0 := HC.out.c0
                    have kHC1 := HC.out.c1
                    have kHC2 := HC.out.c2
                    have kHC3 := HC.out.c3
                    go_wp2_with fail
                    refine (h4.out _ HB.out.below).mono ?_
                    rintro e u4 ⟨rfl, hbl⟩
                    clear kHA0 kHA1 kHA2 kHA3 kHC0 kHC1 kHC2 kHC3
                    have HB := Kp.mk (HB.out.step hbl)
                    have HA := Kp.mk (HA.out.step hbl)
                    have HC := Kp.mk (HC.out.step hbl)
                    clear hbl
                    have kHA0 := HA.out.c0
                    have kHA1 := HA.out.c1
                    have kHA2 := HA.out.c2
                    have kHA3 := HA.out.c3
                    have kHC0 := HC.out.c0
                    have kHC1 := HC.out.c1
                    have kHC2 := HC.out.c2
                    have kHC3 := HC.out.c3
                    go_wp2_with fail
                    go_roundw
                    case rel =>
                      first
                        | exact ⟨j + 1, by omega, by rw [HD.out.1], by rw [SN.out]; rfl, by rw [SB.out]; rfl, by rw [SO.out]; rfl, HA, HC⟩
                        | ((repeat apply Exists.intro); exact ⟨⟨j + 1, by omega, by rw [HD.out.1], by rw [SN.out]; rfl, by rw [SB.out]; rfl, by rw [SO.out]; rfl, HA, HC⟩, rfl⟩)
                    case measure => simp only [intOf]; exact HD.out.2
                  · go_wp2_with fail
                    refine (h3.out _ HB.out.below).mono ?_
                    rintro e u3 ⟨rfl, hbl⟩
                    clear kHA0 kHA1 kHA2 kHA3 kHC0 kHC1 kHC2 kHC3
                    have HB := Kp.mk (HB.out.step hbl)
                    have HA := Kp.mk (HA.out.step hbl)
                    have HC := Kp.mk (HC.out.step hbl)
                    clear hbl
                    have kHA0 := HA.out.c0
                    have kHA1 := HA.out.c1
                    have kHA2 := HA.out.c2
                    have kHA3 := HA.out.c3
                    have kHC0 := HC.out.c0
                    have kHC1 := HC.out.c1
                    have kHC2 := HC.out.c2
                    have kHC3 := HC.out.c3
                    go_wp2_with fail
                    go_roundw
                    case rel =>
                      first
                        | exact ⟨j + 1, by omega, by rw [HD.out.1], by rw [SN.out]; rfl, by rw [SB.out]; rfl, by rw [SO.out]; rfl, HA, HC⟩
                        | ((repeat apply Exists.intro); exact ⟨⟨j + 1, by omega, by rw [HD.out.1], by rw [SN.out]; rfl, by rw [SB.out]; rfl, by rw [SO.out]; rfl, HA, HC⟩, rfl⟩)
                    case measure => simp only [intOf]; exact HD.out.2
                · go_wp2_with fail
                  go_roundw
                  case rel =>
                    first
                      | exact ⟨j + 1, by omega, by rw [HD.out.1], by rw [SN.out]; rfl, by rw [SB.out]; rfl, by rw [SO.out]; rfl, HA, HC⟩
                      | ((repeat apply Exists.intro); exact ⟨⟨j + 1, by omega, by rw [HD.out.1], by rw [SN.out]; rfl, by rw [SB.out]; rfl, by rw [SO.out]; rfl, HA, HC⟩, rfl⟩)
                  case measure => simp only [intOf]; exact HD.out.2
              · cases vn
                · cases q1
                  · go_wp2_with fail
                    refine (h3.out _ HB.out.below).mono ?_
                    rintro e u3 ⟨rfl, hbl⟩
                    clear kHA0 kHA1 kHA2 kHA3 kHC0 kHC1 kHC2 kHC3
                    have HB := Kp.mk (HB.out.step hbl)
                    have HA := Kp.mk (HA.out.step hbl)
                    have HC := Kp.mk (HC.out.step hbl)
                    clear hbl
                    have kHA0 := HA.out.c0
                    have kHA1 := HA.out.c1
                    have kHA2 := HA.out.c2
                    have kHA3 := HA.out.c3
                    have kHC0 := HC.out.c0
                    have kHC1 := HC.out.c1
                    have kHC2 := HC.out.c2
                    have kHC3 := HC.out.c3
                    go_wp2_with fail
                    refine (h4.out _ HB.out.below).mono ?_
                    rintro e u4 ⟨rfl, hbl⟩
                    clear kHA0 kHA1 kHA2 kHA3 kHC0 kHC1 kHC2 kHC3
                    have HB := Kp.mk (HB.out.step hbl)
                    have HA := Kp.mk (HA.out.step hbl)
                    have HC := Kp.mk (HC.out.step hbl)
                    clear hbl
                    have kHA0 := HA.out.c0
                    have kHA1 := HA.out.c1
                    have kHA2 := HA.out.c2
                    have kHA3 := HA.out.c3
                    have kHC0 := HC.out.c0
                    have kHC1 := HC.out.c1
                    have kHC2 := HC.out.c2
                    have kHC3 := HC.out.c3
                    go_wp2_with fail
                    go_roundw
                    case rel =>
                      first
                        | exact ⟨j + 1, by omega, by rw [HD.out.1], by rw [SN.out]; rfl, by rw [SB.out]; rfl, by rw [SO.out]; rfl, HA, HC⟩
                        | ((repeat apply Exists.intro); exact ⟨⟨j + 1, by omega, by rw [HD.out.1], by rw [SN.out]; rfl, by rw [SB.out]; rfl, by rw [SO.out]; rfl, HA, HC⟩, rfl⟩)
                    case measure => simp only [intOf]; exact HD.out.2
                  · go_wp2_with fail
                    refine (h3.out _ HB.out.below).mono ?_
                    rintro e u3 ⟨rfl, hbl⟩
                    clear kHA0 kHA1 kHA2 kHA3 kHC0 kHC1 kHC2 kHC3
                    have HB := Kp.mk (HB.out.step hbl)
                    have HA := Kp.mk (HA.out.step hbl)
                    have HC := Kp.mk (HC.out.step hbl)
                    clear hbl
                    have kHA0 := HA.out.c0
                    have kHA1 := HA.out.c1
                    have kHA2 := HA.out.c2
                    have kHA3 := HA.out.c3
                    have kHC0 := HC.out.c0
                    have kHC1 := HC.out.c1
                    have kHC2 := HC.out.c2
                    have kHC3 := HC.out.c3
                    go_wp2_with fail
                    go_roundw
                    case rel =>
                      first
                        | exact ⟨j + 1, by omega, by rw [HD.out.1], by rw [SN.out]; rfl, by rw [SB.out]; rfl, by rw [SO.out]; rfl, HA, HC⟩
                        | ((repeat apply Exists.intro); exact ⟨⟨j + 1, by omega, by rw [HD.out.1], by rw [SN.out]; rfl, by rw [SB.out]; rfl, by rw [SO.out]; rfl, HA, HC⟩, rfl⟩)
                    case measure => simp only [intOf]; exact HD.out.2
                · go_wp2_with fail
                  go_roundw
                  case rel =>
                    first
                      | exact ⟨j + 1, by omega, by rw [HD.out.1], by rw [SN.out]; rfl, by rw [SB.out]; rfl, by rw [SO.out]; rfl, HA, HC⟩
                      | ((repeat apply Exists.intro); exact ⟨⟨j + 1, by omega, by rw [HD.out.1], by rw [SN.out]; rfl, by rw [SB.out]; rfl, by rw [SO.out]; rfl, HA, HC⟩, rfl⟩)
                  case measure => simp only [intOf]; exact HD.out.2
      · obtain rfl : j = 121 := by omega
        have tl : ¬ (-60 + ((121 : Nat) : Int)) ≤ 60 := by omega
        have td : decide ((-60 + ((121 : Nat) : Int)) ≤ 60) = false := decide_eq_false tl
        have e1 := bothF_is HSA.out HSB.out
        have e2 := outF_is HSA.out HSB.out
        have e3 := nearF_is HSA.out HSB.out
        obtain ⟨z, hz⟩ : ∃ z : Rn, zeroR = z := ⟨_, rfl⟩
        obtain ⟨jn, hjn⟩ : ∃ v, joinN a b = v := ⟨_, rfl⟩
        obtain ⟨cm, hcm⟩ : ∃ v, commN a b = v := ⟨_, rfl⟩
        have e4 : inN a b = !anyTo (outF a b) 121 := by rw [e2, Bool.not_not]
        have i1 := Kp.mk (fun u (hw : Below w.heap.size w u) => HCC.out.within u (HI.out u hw) HSA.out.ok.toIn HSB.out.ok.toIn e4)
        rw [e1] at *
        obtain ⟨vn, hvn⟩ : ∃ v, anyTo (nearF a b) 121 = v := ⟨_, rfl⟩
        obtain ⟨vo, hvo⟩ : ∃ v, anyTo (outF a b) 121 = v := ⟨_, rfl⟩
        rw [hvn] at e3
        rw [hvo] at i1
        rw [hvn, hvo]
        have x1 := Kp.mk (fun u (hw : Below w.heap.size w u) => HCC.out.touch u (HI.out u hw) HSA.out.ok.toIn HSB.out.ok.toIn e3.symm)
        cases hm : meetN a b
        · rw [hm] at e3 x1
          cases vn
          · cases vo
            · have j1 : Kp (∀ u, Below w.heap.size w u → Calls Tryd.prog 28 #[.agg #[.int .i8 a.f, .int .i64 a.d, .int .i8 a.g, .int .i64 a.e], .agg #[.int .i8 b.f, .int .i64 b.d, .int .i8 b.g, .int .i64 b.e]] u fun e w' => e = .returned (.tuple #[.agg #[.int .i8 z.f, .int .i64 z.d, .int .i8 z.g, .int .i64 z.e], .bool false]) ∧ Below u.heap.size u w') := Kp.mk (fun u hw => by rw [← hz]; exact HCC.out.join_no u (HI.out u hw) HSA.out.ok.toIn HSB.out.ok.toIn e3.symm)
              have c1 : Kp (∀ u, Below w.heap.size w u → Calls Tryd.prog 29 #[.agg #[.int .i8 a.f, .int .i64 a.d, .int .i8 a.g, .int .i64 a.e], .agg #[.int .i8 b.f, .int .i64 b.d, .int .i8 b.g, .int .i64 b.e]] u fun e w' => e = .returned (.tuple #[.agg #[.int .i8 z.f, .int .i64 z.d, .int .i8 z.g, .int .i64 z.e], .bool false]) ∧ Below u.heap.size u w') := Kp.mk (fun u hw => by rw [← hz]; exact HCC.out.comm_no u (HI.out u hw) HSA.out.ok.toIn HSB.out.ok.toIn hm)
              clear hz hjn hcm e2 e4 hvn hvo e3 hm
              have kHA0 := HA.out.c0
              have kHA1 := HA.out.c1
              have kHA2 := HA.out.c2
              have kHA3 := HA.out.c3
              have kHC0 := HC.out.c0
              have kHC1 := HC.out.c1
              have kHC2 := HC.out.c2
              have kHC3 := HC.out.c3
              go_wp2_with fail
              refine (j1.out _ HB.out.below).mono ?_
              rintro e u1 ⟨rfl, hbl⟩
              clear kHA0 kHA1 kHA2 kHA3 kHC0 kHC1 kHC2 kHC3
              have HB := Kp.mk (HB.out.step hbl)
              have HA := Kp.mk (HA.out.step hbl)
              have HC := Kp.mk (HC.out.step hbl)
              clear hbl
              have kHA0 := HA.out.c0
              have kHA1 := HA.out.c1
              have kHA2 := HA.out.c2
              have kHA3 := HA.out.c3
              have kHC0 := HC.out.c0
              have kHC1 := HC.out.c1
              have kHC2 := HC.out.c2
              have kHC3 := HC.out.c3
              go_upto_region 13 with fail
              clear kHA0 kHA1 kHA2 kHA3 kHC0 kHC1 kHC2 kHC3
              have HJ := Kp.mk (rg_new z 51 HB.out.below)
              have hbl := (Below.refl u1.heap.size u1).alloc (Nat.le_refl _) (.cells #[.int .i8 z.f, .int .i64 z.d, .int .i8 z.g, .int .i64 z.e] 51)
              have HB := Kp.mk (HB.out.step hbl)
              have HA := Kp.mk (HA.out.step hbl)
              have HC := Kp.mk (HC.out.step hbl)
              clear hbl
              generalize u1.alloc (.cells #[.int .i8 z.f, .int .i64 z.d, .int .i8 z.g, .int .i64 z.e] 51) = u2 at *
              generalize u1.heap.size = b1 at *
              have kHA0 := HA.out.c0
              have kHA1 := HA.out.c1
              have kHA2 := HA.out.c2
              have kHA3 := HA.out.c3
              have kHC0 := HC.out.c0
              have kHC1 := HC.out.c1
              have kHC2 := HC.out.c2
              have kHC3 := HC.out.c3
              have kHJ0 := HJ.out.c0
              have kHJ1 := HJ.out.c1
              have kHJ2 := HJ.out.c2
              have kHJ3 := HJ.out.c3
              go_wp2_with fail
              refine (c1.out _ HB.out.below).mono ?_
              rintro e u3 ⟨rfl, hbl⟩
              clear kHA0 kHA1 kHA2 kHA3 kHC0 kHC1 kHC2 kHC3 kHJ0 kHJ1 kHJ2 kHJ3
              have HB := Kp.mk (HB.out.step hbl)
              have HA := Kp.mk (HA.out.step hbl)
              have HC := Kp.mk (HC.out.step hbl)
              have HJ := Kp.mk (HJ.out.step hbl)
              clear hbl
              have kHA0 := HA.out.c0
              have kHA1 := HA.out.c1
              have kHA2 := HA.out.c2
              have kHA3 := HA.out.c3
              have kHC0 := HC.out.c0
              have kHC1 := HC.out.c1
              have kHC2 := HC.out.c2
              have kHC3 := HC.out.c3
              have kHJ0 := HJ.out.c0
              have kHJ1 := HJ.out.c1
              have kHJ2 := HJ.out.c2
              have kHJ3 := HJ.out.c3
              go_upto_region 14 with fail
              clear kHA0 kHA1 kHA2 kHA3 kHC0 kHC1 kHC2 kHC3 kHJ0 kHJ1 kHJ2 kHJ3
              have HM := Kp.mk (rg_new z 51 HB.out.below)
              have hbl := (Below.refl u3.heap.size u3).alloc (Nat.le_refl _) (.cells #[.int .i8 z.f, .int .i64 z.d, .int .i8 z.g, .int .i64 z.e] 51)
              have HB := Kp.mk (HB.out.step hbl)
              have HA := Kp.mk (HA.out.step hbl)
              have HC := Kp.mk (HC.out.step hbl)
              have HJ := Kp.mk (HJ.out.step hbl)
              clear hbl
              generalize u3.alloc (.cells #[.int .i8 z.f, .int .i64 z.d, .int .i8 z.g, .int .i64 z.e] 51) = u4 at *
              generalize u3.heap.size = b2 at *
              have kHA0 := HA.out.c0
              have kHA1 := HA.out.c1
              have kHA2 := HA.out.c2
              have kHA3 := HA.out.c3
              have kHC0 := HC.out.c0
              have kHC1 := HC.out.c1
              have kHC2 := HC.out.c2
              have kHC3 := HC.out.c3
              have kHJ0 := HJ.out.c0
              have kHJ1 := HJ.out.c1
              have kHJ2 := HJ.out.c2
              have kHJ3 := HJ.out.c3
              have kHM0 := HM.out.c0
              have kHM1 := HM.out.c1
              have kHM2 := HM.out.c2
              have kHM3 := HM.out.c3
              go_wp2_with fail
              refine (x1.out _ HB.out.below).mono ?_
              rintro e u5 ⟨rfl, hbl⟩
              clear kHA0 kHA1 kHA2 kHA3 kHC0 kHC1 kHC2 kHC3 kHJ0 kHJ1 kHJ2 kHJ3 kHM0 kHM1 kHM2 kHM3
              have HB := Kp.mk (HB.out.step hbl)
              have HA := Kp.mk (HA.out.step hbl)
              have HC := Kp.mk (HC.out.step hbl)
              have HJ := Kp.mk (HJ.out.step hbl)
              have HM := Kp.mk (HM.out.step hbl)
              clear hbl
              have kHA0 := HA.out.c0
              have kHA1 := HA.out.c1
              have kHA2 := HA.out.c2
              have kHA3 := HA.out.c3
              have kHC0 := HC.out.c0
              have kHC1 := HC.out.c1
              have kHC2 := HC.out.c2
              have kHC3 := HC.out.c3
              have kHJ0 := HJ.out.c0
              have kHJ1 := HJ.out.c1
              have kHJ2 := HJ.out.c2
              have kHJ3 := HJ.out.c3
              have kHM0 := HM.out.c0
              have kHM1 := HM.out.c1
              have kHM2 := HM.out.c2
              have kHM3 := HM.out.c3
              go_wp2_with fail
              refine (i1.out _ HB.out.below).mono ?_
              rintro e u6 ⟨rfl, hbl⟩
              clear kHA0 kHA1 kHA2 kHA3 kHC0 kHC1 kHC2 kHC3 kHJ0 kHJ1 kHJ2 kHJ3 kHM0 kHM1 kHM2 kHM3
              have HB := Kp.mk (HB.out.step hbl)
              have HA := Kp.mk (HA.out.step hbl)
              have HC := Kp.mk (HC.out.step hbl)
              have HJ := Kp.mk (HJ.out.step hbl)
              have HM := Kp.mk (HM.out.step hbl)
              clear hbl
              have kHA0 := HA.out.c0
              have kHA1 := HA.out.c1
              have kHA2 := HA.out.c2
              have kHA3 := HA.out.c3
              have kHC0 := HC.out.c0
              have kHC1 := HC.out.c1
              have kHC2 := HC.out.c2
              have kHC3 := HC.out.c3
              have kHJ0 := HJ.out.c0
              have kHJ1 := HJ.out.c1
              have kHJ2 := HJ.out.c2
              have kHJ3 := HJ.out.c3
              have kHM0 := HM.out.c0
              have kHM1 := HM.out.c1
              have kHM2 := HM.out.c2
              have kHM3 := HM.out.c3
              go_wp2_with fail
              refine (rl.out _ HB.out.below).mono ?_
              rintro e u7 ⟨rfl, hbl⟩
              clear kHA0 kHA1 kHA2 kHA3 kHC0 kHC1 kHC2 kHC3 kHJ0 kHJ1 kHJ2 kHJ3 kHM0 kHM1 kHM2 kHM3
              have HB := Kp.mk (HB.out.step hbl)
              have HA := Kp.mk (HA.out.step hbl)
              have HC := Kp.mk (HC.out.step hbl)
              have HJ := Kp.mk (HJ.out.step hbl)
              have HM := Kp.mk (HM.out.step hbl)
              clear hbl
              have kHA0 := HA.out.c0
              have kHA1 := HA.out.c1
              have kHA2 := HA.out.c2
              have kHA3 := HA.out.c3
              have kHC0 := HC.out.c0
              have kHC1 := HC.out.c1
              have kHC2 := HC.out.c2
              have kHC3 := HC.out.c3
              have kHJ0 := HJ.out.c0
              have kHJ1 := HJ.out.c1
              have kHJ2 := HJ.out.c2
              have kHJ3 := HJ.out.c3
              have kHM0 := HM.out.c0
              have kHM1 := HM.out.c1
              have kHM2 := HM.out.c2
              have kHM3 := HM.out.c3
              go_wp2_with fail
              go_ret
              exact ⟨rfl, HB.out.below⟩
            · have j1 : Kp (∀ u, Below w.heap.size w u → Calls Tryd.prog 28 #[.agg #[.int .i8 a.f, .int .i64 a.d, .int .i8 a.g, .int .i64 a.e], .agg #[.int .i8 b.f, .int .i64 b.d, .int .i8 b.g, .int .i64 b.e]] u fun e w' => e = .returned (.tuple #[.agg #[.int .i8 z.f, .int .i64 z.d, .int .i8 z.g, .int .i64 z.e], .bool false]) ∧ Below u.heap.size u w') := Kp.mk (fun u hw => by rw [← hz]; exact HCC.out.join_no u (HI.out u hw) HSA.out.ok.toIn HSB.out.ok.toIn e3.symm)
              have c1 : Kp (∀ u, Below w.heap.size w u → Calls Tryd.prog 29 #[.agg #[.int .i8 a.f, .int .i64 a.d, .int .i8 a.g, .int .i64 a.e], .agg #[.int .i8 b.f, .int .i64 b.d, .int .i8 b.g, .int .i64 b.e]] u fun e w' => e = .returned (.tuple #[.agg #[.int .i8 z.f, .int .i64 z.d, .int .i8 z.g, .int .i64 z.e], .bool false]) ∧ Below u.heap.size u w') := Kp.mk (fun u hw => by rw [← hz]; exact HCC.out.comm_no u (HI.out u hw) HSA.out.ok.toIn HSB.out.ok.toIn hm)
              clear hz hjn hcm e2 e4 hvn hvo e3 hm
              have kHA0 := HA.out.c0
              have kHA1 := HA.out.c1
              have kHA2 := HA.out.c2
              have kHA3 := HA.out.c3
              have kHC0 := HC.out.c0
              have kHC1 := HC.out.c1
              have kHC2 := HC.out.c2
              have kHC3 := HC.out.c3
              go_wp2_with fail
              refine (j1.out _ HB.out.below).mono ?_
              rintro e u1 ⟨rfl, hbl⟩
              clear kHA0 kHA1 kHA2 kHA3 kHC0 kHC1 kHC2 kHC3
              have HB := Kp.mk (HB.out.step hbl)
              have HA := Kp.mk (HA.out.step hbl)
              have HC := Kp.mk (HC.out.step hbl)
              clear hbl
              have kHA0 := HA.out.c0
              have kHA1 := HA.out.c1
              have kHA2 := HA.out.c2
              have kHA3 := HA.out.c3
              have kHC0 := HC.out.c0
              have kHC1 := HC.out.c1
              have kHC2 := HC.out.c2
              have kHC3 := HC.out.c3
              go_upto_region 13 with fail
              clear kHA0 kHA1 kHA2 kHA3 kHC0 kHC1 kHC2 kHC3
              have HJ := Kp.mk (rg_new z 51 HB.out.below)
              have hbl := (Below.refl u1.heap.size u1).alloc (Nat.le_refl _) (.cells #[.int .i8 z.f, .int .i64 z.d, .int .i8 z.g, .int .i64 z.e] 51)
              have HB := Kp.mk (HB.out.step hbl)
              have HA := Kp.mk (HA.out.step hbl)
              have HC := Kp.mk (HC.out.step hbl)
              clear hbl
              generalize u1.alloc (.cells #[.int .i8 z.f, .int .i64 z.d, .int .i8 z.g, .int .i64 z.e] 51) = u2 at *
              generalize u1.heap.size = b1 at *
              have kHA0 := HA.out.c0
              have kHA1 := HA.out.c1
              have kHA2 := HA.out.c2
              have kHA3 := HA.out.c3
              have kHC0 := HC.out.c0
              have kHC1 := HC.out.c1
              have kHC2 := HC.out.c2
              have kHC3 := HC.out.c3
              have kHJ0 := HJ.out.c0
              have kHJ1 := HJ.out.c1
              have kHJ2 := HJ.out.c2
              have kHJ3 := HJ.out.c3
              go_wp2_with fail
              refine (c1.out _ HB.out.below).mono ?_
              rintro e u3 ⟨rfl, hbl⟩
              clear kHA0 kHA1 kHA2 kHA3 kHC0 kHC1 kHC2 kHC3 kHJ0 kHJ1 kHJ2 kHJ3
              have HB := Kp.mk (HB.out.step hbl)
              have HA := Kp.mk (HA.out.step hbl)
              have HC := Kp.mk (HC.out.step hbl)
              have HJ := Kp.mk (HJ.out.step hbl)
              clear hbl
              have kHA0 := HA.out.c0
              have kHA1 := HA.out.c1
              have kHA2 := HA.out.c2
              have kHA3 := HA.out.c3
              have kHC0 := HC.out.c0
              have kHC1 := HC.out.c1
              have kHC2 := HC.out.c2
              have kHC3 := HC.out.c3
              have kHJ0 := HJ.out.c0
              have kHJ1 := HJ.out.c1
              have kHJ2 := HJ.out.c2
              have kHJ3 := HJ.out.c3
              go_upto_region 14 with fail
              clear kHA0 kHA1 kHA2 kHA3 kHC0 kHC1 kHC2 kHC3 kHJ0 kHJ1 kHJ2 kHJ3
              have HM := Kp.mk (rg_new z 51 HB.out.below)
              have hbl := (Below.refl u3.heap.size u3).alloc (Nat.le_refl _) (.cells #[.int .i8 z.f, .int .i64 z.d, .int .i8 z.g, .int .i64 z.e] 51)
              have HB := Kp.mk (HB.out.step hbl)
              have HA := Kp.mk (HA.out.step hbl)
              have HC := Kp.mk (HC.out.step hbl)
              have HJ := Kp.mk (HJ.out.step hbl)
              clear hbl
              generalize u3.alloc (.cells #[.int .i8 z.f, .int .i64 z.d, .int .i8 z.g, .int .i64 z.e] 51) = u4 at *
              generalize u3.heap.size = b2 at *
              have kHA0 := HA.out.c0
              have kHA1 := HA.out.c1
              have kHA2 := HA.out.c2
              have kHA3 := HA.out.c3
              have kHC0 := HC.out.c0
              have kHC1 := HC.out.c1
              have kHC2 := HC.out.c2
              have kHC3 := HC.out.c3
              have kHJ0 := HJ.out.c0
              have kHJ1 := HJ.out.c1
              have kHJ2 := HJ.out.c2
              have kHJ3 := HJ.out.c3
              have kHM0 := HM.out.c0
              have kHM1 := HM.out.c1
              have kHM2 := HM.out.c2
              have kHM3 := HM.out.c3
              go_wp2_with fail
              refine (x1.out _ HB.out.below).mono ?_
              rintro e u5 ⟨rfl, hbl⟩
              clear kHA0 kHA1 kHA2 kHA3 kHC0 kHC1 kHC2 kHC3 kHJ0 kHJ1 kHJ2 kHJ3 kHM0 kHM1 kHM2 kHM3
              have HB := Kp.mk (HB.out.step hbl)
              have HA := Kp.mk (HA.out.step hbl)
              have HC := Kp.mk (HC.out.step hbl)
              have HJ := Kp.mk (HJ.out.step hbl)
              have HM := Kp.mk (HM.out.step hbl)
              clear hbl
              have kHA0 := HA.out.c0
              have kHA1 := HA.out.c1
              have kHA2 := HA.out.c2
              have kHA3 := HA.out.c3
              have kHC0 := HC.out.c0
              have kHC1 := HC.out.c1
              have kHC2 := HC.out.c2
              have kHC3 := HC.out.c3
              have kHJ0 := HJ.out.c0
              have kHJ1 := HJ.out.c1
              have kHJ2 := HJ.out.c2
              have kHJ3 := HJ.out.c3
              have kHM0 := HM.out.c0
              have kHM1 := HM.out.c1
              have kHM2 := HM.out.c2
              have kHM3 := HM.out.c3
              go_wp2_with fail
              refine (i1.out _ HB.out.below).mono ?_
              rintro e u6 ⟨rfl, hbl⟩
              clear kHA0 kHA1 kHA2 kHA3 kHC0 kHC1 kHC2 kHC3 kHJ0 kHJ1 kHJ2 kHJ3 kHM0 kHM1 kHM2 kHM3
              have HB := Kp.mk (HB.out.step hbl)
              have HA := Kp.mk (HA.out.step hbl)
              have HC := Kp.mk (HC.out.step hbl)
              have HJ := Kp.mk (HJ.out.step hbl)
              have HM := Kp.mk (HM.out.step hbl)
              clear hbl
              have kHA0 := HA.out.c0
              have kHA1 := HA.out.c1
              have kHA2 := HA.out.c2
              have kHA3 := HA.out.c3
              have kHC0 := HC.out.c0
              have kHC1 := HC.out.c1
              have kHC2 := HC.out.c2
              have kHC3 := HC.out.c3
              have kHJ0 := HJ.out.c0
              have kHJ1 := HJ.out.c1
              have kHJ2 := HJ.out.c2
              have kHJ3 := HJ.out.c3
              have kHM0 := HM.out.c0
              have kHM1 := HM.out.c1
              have kHM2 := HM.out.c2
              have kHM3 := HM.out.c3
              go_wp2_with fail
              refine (rl.out _ HB.out.below).mono ?_
              rintro e u7 ⟨rfl, hbl⟩
              clear kHA0 kHA1 kHA2 kHA3 kHC0 kHC1 kHC2 kHC3 kHJ0 kHJ1 kHJ2 kHJ3 kHM0 kHM1 kHM2 kHM3
              have HB := Kp.mk (HB.out.step hbl)
              have HA := Kp.mk (HA.out.step hbl)
              have HC := Kp.mk (HC.out.step hbl)
              have HJ := Kp.mk (HJ.out.step hbl)
              have HM := Kp.mk (HM.out.step hbl)
              clear hbl
              have kHA0 := HA.out.c0
              have kHA1 := HA.out.c1
              have kHA2 := HA.out.c2
              have kHA3 := HA.out.c3
              have kHC0 := HC.out.c0
              have kHC1 := HC.out.c1
              have kHC2 := HC.out.c2
              have kHC3 := HC.out.c3
              have kHJ0 := HJ.out.c0
              have kHJ1 := HJ.out.c1
              have kHJ2 := HJ.out.c2
              have kHJ3 := HJ.out.c3
              have kHM0 := HM.out.c0
              have kHM1 := HM.out.c1
              have kHM2 := HM.out.c2
              have kHM3 := HM.out.c3
              go_wp2_with fail
              go_ret
              exact ⟨rfl, HB.out.below⟩
          · cases vo
            · have j1 : Kp (∀ u, Below w.heap.size w u → Calls Tryd.prog 28 #[.agg #[.int .i8 a.f, .int .i64 a.d, .int .i8 a.g, .int .i64 a.e], .agg #[.int .i8 b.f, .int .i64 b.d, .int .i8 b.g, .int .i64 b.e]] u fun e w' => e = .returned (.tuple #[.agg #[.int .i8 jn.f, .int .i64 jn.d, .int .i8 jn.g, .int .i64 jn.e], .bool true]) ∧ Below u.heap.size u w') := Kp.mk (fun u hw => HCC.out.join u (HI.out u hw) HSA.out.ok.toIn HSB.out.ok.toIn e3.symm hjn)
              have c1 : Kp (∀ u, Below w.heap.size w u → Calls Tryd.prog 29 #[.agg #[.int .i8 a.f, .int .i64 a.d, .int .i8 a.g, .int .i64 a.e], .agg #[.int .i8 b.f, .int .i64 b.d, .int .i8 b.g, .int .i64 b.e]] u fun e w' => e = .returned (.tuple #[.agg #[.int .i8 z.f, .int .i64 z.d, .int .i8 z.g, .int .i64 z.e], .bool false]) ∧ Below u.heap.size u w') := Kp.mk (fun u hw => by rw [← hz]; exact HCC.out.comm_no u (HI.out u hw) HSA.out.ok.toIn HSB.out.ok.toIn hm)
              clear hz hjn hcm e2 e4 hvn hvo e3 hm
              have kHA0 := HA.out.c0
              have kHA1 := HA.out.c1
              have kHA2 := HA.out.c2
              have kHA3 := HA.out.c3
              have kHC0 := HC.out.c0
              have kHC1 := HC.out.c1
              have kHC2 := HC.out.c2
              have kHC3 := HC.out.c3
              go_wp2_with fail
              refine (j1.out _ HB.out.below).mono ?_
              rintro e u1 ⟨rfl, hbl⟩
              clear kHA0 kHA1 kHA2 kHA3 kHC0 kHC1 kHC2 kHC3
              have HB := Kp.mk (HB.out.step hbl)
              have HA := Kp.mk (HA.out.step hbl)
              have HC := Kp.mk (HC.out.step hbl)
              clear hbl
              have kHA0 := HA.out.c0
              have kHA1 := HA.out.c1
              have kHA2 := HA.out.c2
              have kHA3 := HA.out.c3
              have kHC0 := HC.out.c0
              have kHC1 := HC.out.c1
              have kHC2 := HC.out.c2
              have kHC3 := HC.out.c3
              go_upto_region 13 with fail
              clear kHA0 kHA1 kHA2 kHA3 kHC0 kHC1 kHC2 kHC3
              have HJ := Kp.mk (rg_new jn 51 HB.out.below)
              have hbl := (Below.refl u1.heap.size u1).alloc (Nat.le_refl _) (.cells #[.int .i8 jn.f, .int .i64 jn.d, .int .i8 jn.g, .int .i64 jn.e] 51)
              have HB := Kp.mk (HB.out.step hbl)
              have HA := Kp.mk (HA.out.step hbl)
              have HC := Kp.mk (HC.out.step hbl)
              clear hbl
              generalize u1.alloc (.cells #[.int .i8 jn.f, .int .i64 jn.d, .int .i8 jn.g, .int .i64 jn.e] 51) = u2 at *
              generalize u1.heap.size = b1 at *
              have kHA0 := HA.out.c0
              have kHA1 := HA.out.c1
              have kHA2 := HA.out.c2
              have kHA3 := HA.out.c3
              have kHC0 := HC.out.c0
              have kHC1 := HC.out.c1
              have kHC2 := HC.out.c2
              have kHC3 := HC.out.c3
              have kHJ0 := HJ.out.c0
              have kHJ1 := HJ.out.c1
              have kHJ2 := HJ.out.c2
              have kHJ3 := HJ.out.c3
              go_wp2_with fail
              refine (c1.out _ HB.out.below).mono ?_
              rintro e u3 ⟨rfl, hbl⟩
              clear kHA0 kHA1 kHA2 kHA3 kHC0 kHC1 kHC2 kHC3 kHJ0 kHJ1 kHJ2 kHJ3
              have HB := Kp.mk (HB.out.step hbl)
              have HA := Kp.mk (HA.out.step hbl)
              have HC := Kp.mk (HC.out.step hbl)
              have HJ := Kp.mk (HJ.out.step hbl)
              clear hbl
              have kHA0 := HA.out.c0
              have kHA1 := HA.out.c1
              have kHA2 := HA.out.c2
              have kHA3 := HA.out.c3
              have kHC0 := HC.out.c0
              have kHC1 := HC.out.c1
              have kHC2 := HC.out.c2
              have kHC3 := HC.out.c3
              have kHJ0 := HJ.out.c0
              have kHJ1 := HJ.out.c1
              have kHJ2 := HJ.out.c2
              have kHJ3 := HJ.out.c3
              go_upto_region 14 with fail
              clear kHA0 kHA1 kHA2 kHA3 kHC0 kHC1 kHC2 kHC3 kHJ0 kHJ1 kHJ2 kHJ3
              have HM := Kp.mk (rg_new z 51 HB.out.below)
              have hbl := (Below.refl u3.heap.size u3).alloc (Nat.le_refl _) (.cells #[.int .i8 z.f, .int .i64 z.d, .int .i8 z.g, .int .i64 z.e] 51)
              have HB := Kp.mk (HB.out.step hbl)
              have HA := Kp.mk (HA.out.step hbl)
              have HC := Kp.mk (HC.out.step hbl)
              have HJ := Kp.mk (HJ.out.step hbl)
              clear hbl
              generalize u3.alloc (.cells #[.int .i8 z.f, .int .i64 z.d, .int .i8 z.g, .int .i64 z.e] 51) = u4 at *
              generalize u3.heap.size = b2 at *
              have kHA0 := HA.out.c0
              have kHA1 := HA.out.c1
              have kHA2 := HA.out.c2
              have kHA3 := HA.out.c3
              have kHC0 := HC.out.c0
              have kHC1 := HC.out.c1
              have kHC2 := HC.out.c2
              have kHC3 := HC.out.c3
              have kHJ0 := HJ.out.c0
              have kHJ1 := HJ.out.c1
              have kHJ2 := HJ.out.c2
              have kHJ3 := HJ.out.c3
              have kHM0 := HM.out.c0
              have kHM1 := HM.out.c1
              have kHM2 := HM.out.c2
              have kHM3 := HM.out.c3
              go_wp2_with fail
              refine (x1.out _ HB.out.below).mono ?_
              rintro e u5 ⟨rfl, hbl⟩
              clear kHA0 kHA1 kHA2 kHA3 kHC0 kHC1 kHC2 kHC3 kHJ0 kHJ1 kHJ2 kHJ3 kHM0 kHM1 kHM2 kHM3
              have HB := Kp.mk (HB.out.step hbl)
              have HA := Kp.mk (HA.out.step hbl)
              have HC := Kp.mk (HC.out.step hbl)
              have HJ := Kp.mk (HJ.out.step hbl)
              have HM := Kp.mk (HM.out.step hbl)
              clear hbl
              have kHA0 := HA.out.c0
              have kHA1 := HA.out.c1
              have kHA2 := HA.out.c2
              have kHA3 := HA.out.c3
              have kHC0 := HC.out.c0
              have kHC1 := HC.out.c1
              have kHC2 := HC.out.c2
              have kHC3 := HC.out.c3
              have kHJ0 := HJ.out.c0
              have kHJ1 := HJ.out.c1
              have kHJ2 := HJ.out.c2
              have kHJ3 := HJ.out.c3
              have kHM0 := HM.out.c0
              have kHM1 := HM.out.c1
              have kHM2 := HM.out.c2
              have kHM3 := HM.out.c3
              go_wp2_with fail
              refine (i1.out _ HB.out.below).mono ?_
              rintro e u6 ⟨rfl, hbl⟩
              clear kHA0 kHA1 kHA2 kHA3 kHC0 kHC1 kHC2 kHC3 kHJ0 kHJ1 kHJ2 kHJ3 kHM0 kHM1 kHM2 kHM3
              have HB := Kp.mk (HB.out.step hbl)
              have HA := Kp.mk (HA.out.step hbl)
              have HC := Kp.mk (HC.out.step hbl)
              have HJ := Kp.mk (HJ.out.step hbl)
              have HM := Kp.mk (HM.out.step hbl)
              clear hbl
              have kHA0 := HA.out.c0
              have kHA1 := HA.out.c1
              have kHA2 := HA.out.c2
              have kHA3 := HA.out.c3
              have kHC0 := HC.out.c0
              have kHC1 := HC.out.c1
              have kHC2 := HC.out.c2
              have kHC3 := HC.out.c3
              have kHJ0 := HJ.out.c0
              have kHJ1 := HJ.out.c1
              have kHJ2 := HJ.out.c2
              have kHJ3 := HJ.out.c3
              have kHM0 := HM.out.c0
              have kHM1 := HM.out.c1
              have kHM2 := HM.out.c2
              have kHM3 := HM.out.c3
              go_wp2_with fail
              refine (rl.out _ HB.out.below).mono ?_
              rintro e u7 ⟨rfl, hbl⟩
              clear kHA0 kHA1 kHA2 kHA3 kHC0 kHC1 kHC2 kHC3 kHJ0 kHJ1 kHJ2 kHJ3 kHM0 kHM1 kHM2 kHM3
              have HB := Kp.mk (HB.out.step hbl)
              have HA := Kp.mk (HA.out.step hbl)
              have HC := Kp.mk (HC.out.step hbl)
              have HJ := Kp.mk (HJ.out.step hbl)
              have HM := Kp.mk (HM.out.step hbl)
              clear hbl
              have kHA0 := HA.out.c0
              have kHA1 := HA.out.c1
              have kHA2 := HA.out.c2
              have kHA3 := HA.out.c3
              have kHC0 := HC.out.c0
              have kHC1 := HC.out.c1
              have kHC2 := HC.out.c2
              have kHC3 := HC.out.c3
              have kHJ0 := HJ.out.c0
              have kHJ1 := HJ.out.c1
              have kHJ2 := HJ.out.c2
              have kHJ3 := HJ.out.c3
              have kHM0 := HM.out.c0
              have kHM1 := HM.out.c1
              have kHM2 := HM.out.c2
              have kHM3 := HM.out.c3
              go_wp2_with fail
              go_ret
              exact ⟨rfl, HB.out.below⟩
            · have j1 : Kp (∀ u, Below w.heap.size w u → Calls Tryd.prog 28 #[.agg #[.int .i8 a.f, .int .i64 a.d, .int .i8 a.g, .int .i64 a.e], .agg #[.int .i8 b.f, .int .i64 b.d, .int .i8 b.g, .int .i64 b.e]] u fun e w' => e = .returned (.tuple #[.agg #[.int .i8 jn.f, .int .i64 jn.d, .int .i8 jn.g, .int .i64 jn.e], .bool true]) ∧ Below u.heap.size u w') := Kp.mk (fun u hw => HCC.out.join u (HI.out u hw) HSA.out.ok.toIn HSB.out.ok.toIn e3.symm hjn)
              have c1 : Kp (∀ u, Below w.heap.size w u → Calls Tryd.prog 29 #[.agg #[.int .i8 a.f, .int .i64 a.d, .int .i8 a.g, .int .i64 a.e], .agg #[.int .i8 b.f, .int .i64 b.d, .int .i8 b.g, .int .i64 b.e]] u fun e w' => e = .returned (.tuple #[.agg #[.int .i8 z.f, .int .i64 z.d, .int .i8 z.g, .int .i64 z.e], .bool false]) ∧ Below u.heap.size u w') := Kp.mk (fun u hw => by rw [← hz]; exact HCC.out.comm_no u (HI.out u hw) HSA.out.ok.toIn HSB.out.ok.toIn hm)
              clear hz hjn hcm e2 e4 hvn hvo e3 hm
              have kHA0 := HA.out.c0
              have kHA1 := HA.out.c1
              have kHA2 := HA.out.c2
              have kHA3 := HA.out.c3
              have kHC0 := HC.out.c0
              have kHC1 := HC.out.c1
              have kHC2 := HC.out.c2
              have kHC3 := HC.out.c3
              go_wp2_with fail
              refine (j1.out _ HB.out.below).mono ?_
              rintro e u1 ⟨rfl, hbl⟩
              clear kHA0 kHA1 kHA2 kHA3 kHC0 kHC1 kHC2 kHC3
              have HB := Kp.mk (HB.out.step hbl)
              have HA := Kp.mk (HA.out.step hbl)
              have HC := Kp.mk (HC.out.step hbl)
              clear hbl
              have kHA0 := HA.out.c0
              have kHA1 := HA.out.c1
              have kHA2 := HA.out.c2
              have kHA3 := HA.out.c3
              have kHC0 := HC.out.c0
              have kHC1 := HC.out.c1
              have kHC2 := HC.out.c2
              have kHC3 := HC.out.c3
              go_upto_region 13 with fail
              clear kHA0 kHA1 kHA2 kHA3 kHC0 kHC1 kHC2 kHC3
              have HJ := Kp.mk (rg_new jn 51 HB.out.below)
              have hbl := (Below.refl u1.heap.size u1).alloc (Nat.le_refl _) (.cells #[.int .i8 jn.f, .int .i64 jn.d, .int .i8 jn.g, .int .i64 jn.e] 51)
              have HB := Kp.mk (HB.out.step hbl)
              have HA := Kp.mk (HA.out.step hbl)
              have HC := Kp.mk (HC.out.step hbl)
              clear hbl
              generalize u1.alloc (.cells #[.int .i8 jn.f, .int .i64 jn.d, .int .i8 jn.g, .int .i64 jn.e] 51) = u2 at *
              generalize u1.heap.size = b1 at *
              have kHA0 := HA.out.c0
              have kHA1 := HA.out.c1
              have kHA2 := HA.out.c2
              have kHA3 := HA.out.c3
              have kHC0 := HC.out.c0
              have kHC1 := HC.out.c1
              have kHC2 := HC.out.c2
              have kHC3 := HC.out.c3
              have kHJ0 := HJ.out.c0
              have kHJ1 := HJ.out.c1
              have kHJ2 := HJ.out.c2
              have kHJ3 := HJ.out.c3
              go_wp2_with fail
              refine (c1.out _ HB.out.below).mono ?_
              rintro e u3 ⟨rfl, hbl⟩
              clear kHA0 kHA1 kHA2 kHA3 kHC0 kHC1 kHC2 kHC3 kHJ0 kHJ1 kHJ2 kHJ3
              have HB := Kp.mk (HB.out.step hbl)
              have HA := Kp.mk (HA.out.step hbl)
              have HC := Kp.mk (HC.out.step hbl)
              have HJ := Kp.mk (HJ.out.step hbl)
              clear hbl
              have kHA0 := HA.out.c0
              have kHA1 := HA.out.c1
              have kHA2 := HA.out.c2
              have kHA3 := HA.out.c3
              have kHC0 := HC.out.c0
              have kHC1 := HC.out.c1
              have kHC2 := HC.out.c2
              have kHC3 := HC.out.c3
              have kHJ0 := HJ.out.c0
              have kHJ1 := HJ.out.c1
              have kHJ2 := HJ.out.c2
              have kHJ3 := HJ.out.c3
              go_upto_region 14 with fail
              clear kHA0 kHA1 kHA2 kHA3 kHC0 kHC1 kHC2 kHC3 kHJ0 kHJ1 kHJ2 kHJ3
              have HM := Kp.mk (rg_new z 51 HB.out.below)
              have hbl := (Below.refl u3.heap.size u3).alloc (Nat.le_refl _) (.cells #[.int .i8 z.f, .int .i64 z.d, .int .i8 z.g, .int .i64 z.e] 51)
              have HB := Kp.mk (HB.out.step hbl)
              have HA := Kp.mk (HA.out.step hbl)
              have HC := Kp.mk (HC.out.step hbl)
              have HJ := Kp.mk (HJ.out.step hbl)
              clear hbl
              generalize u3.alloc (.cells #[.int .i8 z.f, .int .i64 z.d, .int .i8 z.g, .int .i64 z.e] 51) = u4 at *
              generalize u3.heap.size = b2 at *
              have kHA0 := HA.out.c0
              have kHA1 := HA.out.c1
              have kHA2 := HA.out.c2
              have kHA3 := HA.out.c3
              have kHC0 := HC.out.c0
              have kHC1 := HC.out.c1
              have kHC2 := HC.out.c2
              have kHC3 := HC.out.c3
              have kHJ0 := HJ.out.c0
              have kHJ1 := HJ.out.c1
              have kHJ2 := HJ.out.c2
              have kHJ3 := HJ.out.c3
              have kHM0 := HM.out.c0
              have kHM1 := HM.out.c1
              have kHM2 := HM.out.c2
              have kHM3 := HM.out.c3
              go_wp2_with fail
              refine (x1.out _ HB.out.below).mono ?_
              rintro e u5 ⟨rfl, hbl⟩
              clear kHA0 kHA1 kHA2 kHA3 kHC0 kHC1 kHC2 kHC3 kHJ0 kHJ1 kHJ2 kHJ3 kHM0 kHM1 kHM2 kHM3
              have HB := Kp.mk (HB.out.step hbl)
              have HA := Kp.mk (HA.out.step hbl)
              have HC := Kp.mk (HC.out.step hbl)
              have HJ := Kp.mk (HJ.out.step hbl)
              have HM := Kp.mk (HM.out.step hbl)
              clear hbl
              have kHA0 := HA.out.c0
              have kHA1 := HA.out.c1
              have kHA2 := HA.out.c2
              have kHA3 := HA.out.c3
              have kHC0 := HC.out.c0
              have kHC1 := HC.out.c1
              have kHC2 := HC.out.c2
              have kHC3 := HC.out.c3
              have kHJ0 := HJ.out.c0
              have kHJ1 := HJ.out.c1
              have kHJ2 := HJ.out.c2
              have kHJ3 := HJ.out.c3
              have kHM0 := HM.out.c0
              have kHM1 := HM.out.c1
              have kHM2 := HM.out.c2
              have kHM3 := HM.out.c3
              go_wp2_with fail
              refine (i1.out _ HB.out.below).mono ?_
              rintro e u6 ⟨rfl, hbl⟩
              clear kHA0 kHA1 kHA2 kHA3 kHC0 kHC1 kHC2 kHC3 kHJ0 kHJ1 kHJ2 kHJ3 kHM0 kHM1 kHM2 kHM3
              have HB := Kp.mk (HB.out.step hbl)
              have HA := Kp.mk (HA.out.step hbl)
              have HC := Kp.mk (HC.out.step hbl)
              have HJ := Kp.mk (HJ.out.step hbl)
              have HM := Kp.mk (HM.out.step hbl)
              clear hbl
              have kHA0 := HA.out.c0
              have kHA1 := HA.out.c1
              have kHA2 := HA.out.c2
              have kHA3 := HA.out.c3
              have kHC0 := HC.out.c0
              have kHC1 := HC.out.c1
              have kHC2 := HC.out.c2
              have kHC3 := HC.out.c3
              have kHJ0 := HJ.out.c0
              have kHJ1 := HJ.out.c1
              have kHJ2 := HJ.out.c2
              have kHJ3 := HJ.out.c3
              have kHM0 := HM.out.c0
              have kHM1 := HM.out.c1
              have kHM2 := HM.out.c2
              have kHM3 := HM.out.c3
              go_wp2_with fail
              refine (rl.out _ HB.out.below).mono ?_
              rintro e u7 ⟨rfl, hbl⟩
              clear kHA0 kHA1 kHA2 kHA3 kHC0 kHC1 kHC2 kHC3 kHJ0 kHJ1 kHJ2 kHJ3 kHM0 kHM1 kHM2 kHM3
              have HB := Kp.mk (HB.out.step hbl)
              have HA := Kp.mk (HA.out.step hbl)
              have HC := Kp.mk (HC.out.step hbl)
              have HJ := Kp.mk (HJ.out.step hbl)
              have HM := Kp.mk (HM.out.step hbl)
              clear hbl
              have kHA0 := HA.out.c0
              have kHA1 := HA.out.c1
              have kHA2 := HA.out.c2
              have kHA3 := HA.out.c3
              have kHC0 := HC.out.c0
              have kHC1 := HC.out.c1
              have kHC2 := HC.out.c2
              have kHC3 := HC.out.c3
              have kHJ0 := HJ.out.c0
              have kHJ1 := HJ.out.c1
              have kHJ2 := HJ.out.c2
              have kHJ3 := HJ.out.c3
              have kHM0 := HM.out.c0
              have kHM1 := HM.out.c1
              have kHM2 := HM.out.c2
              have kHM3 := HM.out.c3
              go_wp2_with fail
              go_ret
              exact ⟨rfl, HB.out.below⟩
        · rw [hm] at e3 x1
          cases vn
          · cases vo
            · have j1 : Kp (∀ u, Below w.heap.size w u → Calls Tryd.prog 28 #[.agg #[.int .i8 a.f, .int .i64 a.d, .int .i8 a.g, .int .i64 a.e], .agg #[.int .i8 b.f, .int .i64 b.d, .int .i8 b.g, .int .i64 b.e]] u fun e w' => e = .returned (.tuple #[.agg #[.int .i8 jn.f, .int .i64 jn.d, .int .i8 jn.g, .int .i64 jn.e], .bool true]) ∧ Below u.heap.size u w') := Kp.mk (fun u hw => HCC.out.join u (HI.out u hw) HSA.out.ok.toIn HSB.out.ok.toIn e3.symm hjn)
              have c1 : Kp (∀ u, Below w.heap.size w u → Calls Tryd.prog 29 #[.agg #[.int .i8 a.f, .int .i64 a.d, .int .i8 a.g, .int .i64 a.e], .agg #[.int .i8 b.f, .int .i64 b.d, .int .i8 b.g, .int .i64 b.e]] u fun e w' => e = .returned (.tuple #[.agg #[.int .i8 cm.f, .int .i64 cm.d, .int .i8 cm.g, .int .i64 cm.e], .bool true]) ∧ Below u.heap.size u w') := Kp.mk (fun u hw => HCC.out.comm u (HI.out u hw) HSA.out.ok.toIn HSB.out.ok.toIn hm hcm)
              clear hz hjn hcm e2 e4 hvn hvo e3 hm
              have kHA0 := HA.out.c0
              have kHA1 := HA.out.c1
              have kHA2 := HA.out.c2
              have kHA3 := HA.out.c3
              have kHC0 := HC.out.c0
              have kHC1 := HC.out.c1
              have kHC2 := HC.out.c2
              have kHC3 := HC.out.c3
              go_wp2_with fail
              refine (j1.out _ HB.out.below).mono ?_
              rintro e u1 ⟨rfl, hbl⟩
              clear kHA0 kHA1 kHA2 kHA3 kHC0 kHC1 kHC2 kHC3
              have HB := Kp.mk (HB.out.step hbl)
              have HA := Kp.mk (HA.out.step hbl)
              have HC := Kp.mk (HC.out.step hbl)
              clear hbl
              have kHA0 := HA.out.c0
              have kHA1 := HA.out.c1
              have kHA2 := HA.out.c2
              have kHA3 := HA.out.c3
              have kHC0 := HC.out.c0
              have kHC1 := HC.out.c1
              have kHC2 := HC.out.c2
              have kHC3 := HC.out.c3
              go_upto_region 13 with fail
              clear kHA0 kHA1 kHA2 kHA3 kHC0 kHC1 kHC2 kHC3
              have HJ := Kp.mk (rg_new jn 51 HB.out.below)
              have hbl := (Below.refl u1.heap.size u1).alloc (Nat.le_refl _) (.cells #[.int .i8 jn.f, .int .i64 jn.d, .int .i8 jn.g, .int .i64 jn.e] 51)
              have HB := Kp.mk (HB.out.step hbl)
              have HA := Kp.mk (HA.out.step hbl)
              have HC := Kp.mk (HC.out.step hbl)
              clear hbl
              generalize u1.alloc (.cells #[.int .i8 jn.f, .int .i64 jn.d, .int .i8 jn.g, .int .i64 jn.e] 51) = u2 at *
              generalize u1.heap.size = b1 at *
              have kHA0 := HA.out.c0
              have kHA1 := HA.out.c1
              have kHA2 := HA.out.c2
              have kHA3 := HA.out.c3
              have kHC0 := HC.out.c0
              have kHC1 := HC.out.c1
              have kHC2 := HC.out.c2
              have kHC3 := HC.out.c3
              have kHJ0 := HJ.out.c0
              have kHJ1 := HJ.out.c1
              have kHJ2 := HJ.out.c2
              have kHJ3 := HJ.out.c3
              go_wp2_with fail
              refine (c1.out _ HB.out.below).mono ?_
              rintro e u3 ⟨rfl, hbl⟩
              clear kHA0 kHA1 kHA2 kHA3 kHC0 kHC1 kHC2 kHC3 kHJ0 kHJ1 kHJ2 kHJ3
              have HB := Kp.mk (HB.out.step hbl)
              have HA := Kp.mk (HA.out.step hbl)
              have HC := Kp.mk (HC.out.step hbl)
              have HJ := Kp.mk (HJ.out.step hbl)
              clear hbl
              have kHA0 := HA.out.c0
              have kHA1 := HA.out.c1
              have kHA2 := HA.out.c2
              have kHA3 := HA.out.c3
              have kHC0 := HC.out.c0
              have kHC1 := HC.out.c1
              have kHC2 := HC.out.c2
              have kHC3 := HC.out.c3
              have kHJ0 := HJ.out.c0
              have kHJ1 := HJ.out.c1
              have kHJ2 := HJ.out.c2
              have kHJ3 := HJ.out.c3
              go_upto_region 14 with fail
              clear kHA0 kHA1 kHA2 kHA3 kHC0 kHC1 kHC2 kHC3 kHJ0 kHJ1 kHJ2 kHJ3
              have HM := Kp.mk (rg_new cm 51 HB.out.below)
              have hbl := (Below.refl u3.heap.size u3).alloc (Nat.le_refl _) (.cells #[.int .i8 cm.f, .int .i64 cm.d, .int .i8 cm.g, .int .i64 cm.e] 51)
              have HB := Kp.mk (HB.out.step hbl)
              have HA := Kp.mk (HA.out.step hbl)
              have HC := Kp.mk (HC.out.step hbl)
              have HJ := Kp.mk (HJ.out.step hbl)
              clear hbl
              generalize u3.alloc (.cells #[.int .i8 cm.f, .int .i64 cm.d, .int .i8 cm.g, .int .i64 cm.e] 51) = u4 at *
              generalize u3.heap.size = b2 at *
              have kHA0 := HA.out.c0
              have kHA1 := HA.out.c1
              have kHA2 := HA.out.c2
              have kHA3 := HA.out.c3
              have kHC0 := HC.out.c0
              have kHC1 := HC.out.c1
              have kHC2 := HC.out.c2
              have kHC3 := HC.out.c3
              have kHJ0 := HJ.out.c0
              have kHJ1 := HJ.out.c1
              have kHJ2 := HJ.out.c2
              have kHJ3 := HJ.out.c3
              have kHM0 := HM.out.c0
              have kHM1 := HM.out.c1
              have kHM2 := HM.out.c2
              have kHM3 := HM.out.c3
              go_wp2_with fail
              refine (x1.out _ HB.out.below).mono ?_
              rintro e u5 ⟨rfl, hbl⟩
              clear kHA0 kHA1 kHA2 kHA3 kHC0 kHC1 kHC2 kHC3 kHJ0 kHJ1 kHJ2 kHJ3 kHM0 kHM1 kHM2 kHM3
              have HB := Kp.mk (HB.out.step hbl)
              have HA := Kp.mk (HA.out.step hbl)
              have HC := Kp.mk (HC.out.step hbl)
              have HJ := Kp.mk (HJ.out.step hbl)
              have HM := Kp.mk (HM.out.step hbl)
              clear hbl
              have kHA0 := HA.out.c0
              have kHA1 := HA.out.c1
              have kHA2 := HA.out.c2
              have kHA3 := HA.out.c3
              have kHC0 := HC.out.c0
              have kHC1 := HC.out.c1
              have kHC2 := HC.out.c2
              have kHC3 := HC.out.c3
              have kHJ0 := HJ.out.c0
              have kHJ1 := HJ.out.c1
              have kHJ2 := HJ.out.c2
              have kHJ3 := HJ.out.c3
              have kHM0 := HM.out.c0
              have kHM1 := HM.out.c1
              have kHM2 := HM.out.c2
              have kHM3 := HM.out.c3
              go_wp2_with fail
              refine (i1.out _ HB.out.below).mono ?_
              rintro e u6 ⟨rfl, hbl⟩
              clear kHA0 kHA1 kHA2 kHA3 kHC0 kHC1 kHC2 kHC3 kHJ0 kHJ1 kHJ2 kHJ3 kHM0 kHM1 kHM2 kHM3
              have HB := Kp.mk (HB.out.step hbl)
              have HA := Kp.mk (HA.out.step hbl)
              have HC := Kp.mk (HC.out.step hbl)
              have HJ := Kp.mk (HJ.out.step hbl)
              have HM := Kp.mk (HM.out.step hbl)
              clear hbl
              have kHA0 := HA.out.c0
              have kHA1 := HA.out.c1
              have kHA2 := HA.out.c2
              have kHA3 := HA.out.c3
              have kHC0 := HC.out.c0
              have kHC1 := HC.out.c1
              have kHC2 := HC.out.c2
              have kHC3 := HC.out.c3
              have kHJ0 := HJ.out.c0
              have kHJ1 := HJ.out.c1
              have kHJ2 := HJ.out.c2
              have kHJ3 := HJ.out.c3
              have kHM0 := HM.out.c0
              have kHM1 := HM.out.c1
              have kHM2 := HM.out.c2
              have kHM3 := HM.out.c3
              go_wp2_with fail
              refine (rl.out _ HB.out.below).mono ?_
              rintro e u7 ⟨rfl, hbl⟩
              clear kHA0 kHA1 kHA2 kHA3 kHC0 kHC1 kHC2 kHC3 kHJ0 kHJ1 kHJ2 kHJ3 kHM0 kHM1 kHM2 kHM3
              have HB := Kp.mk (HB.out.step hbl)
              have HA := Kp.mk (HA.out.step hbl)
              have HC := Kp.mk (HC.out.step hbl)
              have HJ := Kp.mk (HJ.out.step hbl)
              have HM := Kp.mk (HM.out.step hbl)
              clear hbl
              have kHA0 := HA.out.c0
              have kHA1 := HA.out.c1
              have kHA2 := HA.out.c2
              have kHA3 := HA.out.c3
              have kHC0 := HC.out.c0
              have kHC1 := HC.out.c1
              have kHC2 := HC.out.c2
              have kHC3 := HC.out.c3
              have kHJ0 := HJ.out.c0
              have kHJ1 := HJ.out.c1
              have kHJ2 := HJ.out.c2
              have kHJ3 := HJ.out.c3
              have kHM0 := HM.out.c0
              have kHM1 := HM.out.c1
              have kHM2 := HM.out.c2
              have kHM3 := HM.out.c3
              go_wp2_with fail
              go_ret
              exact ⟨rfl, HB.out.below⟩
            · have j1 : Kp (∀ u, Below w.heap.size w u → Calls Tryd.prog 28 #[.agg #[.int .i8 a.f, .int .i64 a.d, .int .i8 a.g, .int .i64 a.e], .agg #[.int .i8 b.f, .int .i64 b.d, .int .i8 b.g, .int .i64 b.e]] u fun e w' => e = .returned (.tuple #[.agg #[.int .i8 jn.f, .int .i64 jn.d, .int .i8 jn.g, .int .i64 jn.e], .bool true]) ∧ Below u.heap.size u w') := Kp.mk (fun u hw => HCC.out.join u (HI.out u hw) HSA.out.ok.toIn HSB.out.ok.toIn e3.symm hjn)
              have c1 : Kp (∀ u, Below w.heap.size w u → Calls Tryd.prog 29 #[.agg #[.int .i8 a.f, .int .i64 a.d, .int .i8 a.g, .int .i64 a.e], .agg #[.int .i8 b.f, .int .i64 b.d, .int .i8 b.g, .int .i64 b.e]] u fun e w' => e = .returned (.tuple #[.agg #[.int .i8 cm.f, .int .i64 cm.d, .int .i8 cm.g, .int .i64 cm.e], .bool true]) ∧ Below u.heap.size u w') := Kp.mk (fun u hw => HCC.out.comm u (HI.out u hw) HSA.out.ok.toIn HSB.out.ok.toIn hm hcm)
              clear hz hjn hcm e2 e4 hvn hvo e3 hm
              have kHA0 := HA.out.c0
              have kHA1 := HA.out.c1
              have kHA2 := HA.out.c2
              have kHA3 := HA.out.c3
              have kHC0 := HC.out.c0
              have kHC1 := HC.out.c1
              have kHC2 := HC.out.c2
              have kHC3 := HC.out.c3
              go_wp2_with fail
              refine (j1.out _ HB.out.below).mono ?_
              rintro e u1 ⟨rfl, hbl⟩
              clear kHA0 kHA1 kHA2 kHA3 kHC0 kHC1 kHC2 kHC3
              have HB := Kp.mk (HB.out.step hbl)
              have HA := Kp.mk (HA.out.step hbl)
              have HC := Kp.mk (HC.out.step hbl)
              clear hbl
              have kHA0 := HA.out.c0
              have kHA1 := HA.out.c1
              have kHA2 := HA.out.c2
              have kHA3 := HA.out.c3
              have kHC0 := HC.out.c0
              have kHC1 := HC.out.c1
              have kHC2 := HC.out.c2
              have kHC3 := HC.out.c3
              go_upto_region 13 with fail
              clear kHA0 kHA1 kHA2 kHA3 kHC0 kHC1 kHC2 kHC3
              have HJ := Kp.mk (rg_new jn 51 HB.out.below)
              have hbl := (Below.refl u1.heap.size u1).alloc (Nat.le_refl _) (.cells #[.int .i8 jn.f, .int .i64 jn.d, .int .i8 jn.g, .int .i64 jn.e] 51)
              have HB := Kp.mk (HB.out.step hbl)
              have HA := Kp.mk (HA.out.step hbl)
              have HC := Kp.mk (HC.out.step hbl)
              clear hbl
              generalize u1.alloc (.cells #[.int .i8 jn.f, .int .i64 jn.d, .int .i8 jn.g, .int .i64 jn.e] 51) = u2 at *
              generalize u1.heap.size = b1 at *
              have kHA0 := HA.out.c0
              have kHA1 := HA.out.c1
              have kHA2 := HA.out.c2
              have kHA3 := HA.out.c3
              have kHC0 := HC.out.c0
              have kHC1 := HC.out.c1
              have kHC2 := HC.out.c2
              have kHC3 := HC.out.c3
              have kHJ0 := HJ.out.c0
              have kHJ1 := HJ.out.c1
              have kHJ2 := HJ.out.c2
              have kHJ3 := HJ.out.c3
              go_wp2_with fail
              refine (c1.out _ HB.out.below).mono ?_
              rintro e u3 ⟨rfl, hbl⟩
              clear kHA0 kHA1 kHA2 kHA3 kHC0 kHC1 kHC2 kHC3 kHJ0 kHJ1 kHJ2 kHJ3
              have HB := Kp.mk (HB.out.step hbl)
              have HA := Kp.mk (HA.out.step hbl)
              have HC := Kp.mk (HC.out.step hbl)
              have HJ := Kp.mk (HJ.out.step hbl)
              clear hbl
              have kHA0 := HA.out.c0
              have kHA1 := HA.out.c1
              have kHA2 := HA.out.c2
              have kHA3 := HA.out.c3
              have kHC0 := HC.out.c0
              have kHC1 := HC.out.c1
              have kHC2 := HC.out.c2
              have kHC3 := HC.out.c3
              have kHJ0 := HJ.out.c0
              have kHJ1 := HJ.out.c1
              have kHJ2 := HJ.out.c2
              have kHJ3 := HJ.out.c3
              go_upto_region 14 with fail
              clear kHA0 kHA1 kHA2 kHA3 kHC0 kHC1 kHC2 kHC3 kHJ0 kHJ1 kHJ2 kHJ3
              have HM := Kp.mk (rg_new cm 51 HB.out.below)
              have hbl := (Below.refl u3.heap.size u3).alloc (Nat.le_refl _) (.cells #[.int .i8 cm.f, .int .i64 cm.d, .int .i8 cm.g, .int .i64 cm.e] 51)
              have HB := Kp.mk (HB.out.step hbl)
              have HA := Kp.mk (HA.out.step hbl)
              have HC := Kp.mk (HC.out.step hbl)
              have HJ := Kp.mk (HJ.out.step hbl)
              clear hbl
              generalize u3.alloc (.cells #[.int .i8 cm.f, .int .i64 cm.d, .int .i8 cm.g, .int .i64 cm.e] 51) = u4 at *
              generalize u3.heap.size = b2 at *
              have kHA0 := HA.out.c0
              have kHA1 := HA.out.c1
              have kHA2 := HA.out.c2
              have kHA3 := HA.out.c3
              have kHC0 := HC.out.c0
              have kHC1 := HC.out.c1
              have kHC2 := HC.out.c2
              have kHC3 := HC.out.c3
              have kHJ0 := HJ.out.c0
              have kHJ1 := HJ.out.c1
              have kHJ2 := HJ.out.c2
              have kHJ3 := HJ.out.c3
              have kHM0 := HM.out.c0
              have kHM1 := HM.out.c1
              have kHM2 := HM.out.c2
              have kHM3 := HM.out.c3
              go_wp2_with fail
              refine (x1.out _ HB.out.below).mono ?_
              rintro e u5 ⟨rfl, hbl⟩
              clear kHA0 kHA1 kHA2 kHA3 kHC0 kHC1 kHC2 kHC3 kHJ0 kHJ1 kHJ2 kHJ3 kHM0 kHM1 kHM2 kHM3
              have HB := Kp.mk (HB.out.step hbl)
              have HA := Kp.mk (HA.out.step hbl)
              have HC := Kp.mk (HC.out.step hbl)
              have HJ := Kp.mk (HJ.out.step hbl)
              have HM := Kp.mk (HM.out.step hbl)
              clear hbl
              have kHA0 := HA.out.c0
              have kHA1 := HA.out.c1
              have kHA2 := HA.out.c2
              have kHA3 := HA.out.c3
              have kHC0 := HC.out.c0
              have kHC1 := HC.out.c1
              have kHC2 := HC.out.c2
              have kHC3 := HC.out.c3
              have kHJ0 := HJ.out.c0
              have kHJ1 := HJ.out.c1
              have kHJ2 := HJ.out.c2
              have kHJ3 := HJ.out.c3
              have kHM0 := HM.out.c0
              have kHM1 := HM.out.c1
              have kHM2 := HM.out.c2
              have kHM3 := HM.out.c3
              go_wp2_with fail
              refine (i1.out _ HB.out.below).mono ?_
              rintro e u6 ⟨rfl, hbl⟩
              clear kHA0 kHA1 kHA2 kHA3 kHC0 kHC1 kHC2 kHC3 kHJ0 kHJ1 kHJ2 kHJ3 kHM0 kHM1 kHM2 kHM3
              have HB := Kp.mk (HB.out.step hbl)
              have HA := Kp.mk (HA.out.step hbl)
              have HC := Kp.mk (HC.out.step hbl)
              have HJ := Kp.mk (HJ.out.step hbl)
              have HM := Kp.mk (HM.out.step hbl)
              clear hbl
              have kHA0 := HA.out.c0
              have kHA1 := HA.out.c1
              have kHA2 := HA.out.c2
              have kHA3 := HA.out.c3
              have kHC0 := HC.out.c0
              have kHC1 := HC.out.c1
              have kHC2 := HC.out.c2
              have kHC3 := HC.out.c3
              have kHJ0 := HJ.out.c0
              have kHJ1 := HJ.out.c1
              have kHJ2 := HJ.out.c2
              have kHJ3 := HJ.out.c3
              have kHM0 := HM.out.c0
              have kHM1 := HM.out.c1
              have kHM2 := HM.out.c2
              have kHM3 := HM.out.c3
              go_wp2_with fail
              refine (rl.out _ HB.out.below).mono ?_
              rintro e u7 ⟨rfl, hbl⟩
              clear kHA0 kHA1 kHA2 kHA3 kHC0 kHC1 kHC2 kHC3 kHJ0 kHJ1 kHJ2 kHJ3 kHM0 kHM1 kHM2 kHM3
              have HB := Kp.mk (HB.out.step hbl)
              have HA := Kp.mk (HA.out.step hbl)
              have HC := Kp.mk (HC.out.step hbl)
              have HJ := Kp.mk (HJ.out.step hbl)
              have HM := Kp.mk (HM.out.step hbl)
              clear hbl
              have kHA0 := HA.out.c0
              have kHA1 := HA.out.c1
              have kHA2 := HA.out.c2
              have kHA3 := HA.out.c3
              have kHC0 := HC.out.c0
              have kHC1 := HC.out.c1
              have kHC2 := HC.out.c2
              have kHC3 := HC.out.c3
              have kHJ0 := HJ.out.c0
              have kHJ1 := HJ.out.c1
              have kHJ2 := HJ.out.c2
              have kHJ3 := HJ.out.c3
              have kHM0 := HM.out.c0
              have kHM1 := HM.out.c1
              have kHM2 := HM.out.c2
              have kHM3 := HM.out.c3
              go_wp2_with fail
              go_ret
              exact ⟨rfl, HB.out.below⟩
          · cases vo
            · have j1 : Kp (∀ u, Below w.heap.size w u → Calls Tryd.prog 28 #[.agg #[.int .i8 a.f, .int .i64 a.d, .int .i8 a.g, .int .i64 a.e], .agg #[.int .i8 b.f, .int .i64 b.d, .int .i8 b.g, .int .i64 b.e]] u fun e w' => e = .returned (.tuple #[.agg #[.int .i8 jn.f, .int .i64 jn.d, .int .i8 jn.g, .int .i64 jn.e], .bool true]) ∧ Below u.heap.size u w') := Kp.mk (fun u hw => HCC.out.join u (HI.out u hw) HSA.out.ok.toIn HSB.out.ok.toIn e3.symm hjn)
              have c1 : Kp (∀ u, Below w.heap.size w u → Calls Tryd.prog 29 #[.agg #[.int .i8 a.f, .int .i64 a.d, .int .i8 a.g, .int .i64 a.e], .agg #[.int .i8 b.f, .int .i64 b.d, .int .i8 b.g, .int .i64 b.e]] u fun e w' => e = .returned (.tuple #[.agg #[.int .i8 cm.f, .int .i64 cm.d, .int .i8 cm.g, .int .i64 cm.e], .bool true]) ∧ Below u.heap.size u w') := Kp.mk (fun u hw => HCC.out.comm u (HI.out u hw) HSA.out.ok.toIn HSB.out.ok.toIn hm hcm)
              clear hz hjn hcm e2 e4 hvn hvo e3 hm
              have kHA0 := HA.out.c0
              have kHA1 := HA.out.c1
              have kHA2 := HA.out.c2
              have kHA3 := HA.out.c3
              have kHC0 := HC.out.c0
              have kHC1 := HC.out.c1
              have kHC2 := HC.out.c2
              have kHC3 := HC.out.c3
              go_wp2_with fail
              refine (j1.out _ HB.out.below).mono ?_
              rintro e u1 ⟨rfl, hbl⟩
              clear kHA0 kHA1 kHA2 kHA3 kHC0 kHC1 kHC2 kHC3
              have HB := Kp.mk (HB.out.step hbl)
              have HA := Kp.mk (HA.out.step hbl)
              have HC := Kp.mk (HC.out.step hbl)
              clear hbl
              have kHA0 := HA.out.c0
              have kHA1 := HA.out.c1
              have kHA2 := HA.out.c2
              have kHA3 := HA.out.c3
              have kHC0 := HC.out.c0
              have kHC1 := HC.out.c1
              have kHC2 := HC.out.c2
              have kHC3 := HC.out.c3
              go_upto_region 13 with fail
              clear kHA0 kHA1 kHA2 kHA3 kHC0 kHC1 kHC2 kHC3
              have HJ := Kp.mk (rg_new jn 51 HB.out.below)
              have hbl := (Below.refl u1.heap.size u1).alloc (Nat.le_refl _) (.cells #[.int .i8 jn.f, .int .i64 jn.d, .int .i8 jn.g, .int .i64 jn.e] 51)
              have HB := Kp.mk (HB.out.step hbl)
              have HA := Kp.mk (HA.out.step hbl)
              have HC := Kp.mk (HC.out.step hbl)
              clear hbl
              generalize u1.alloc (.cells #[.int .i8 jn.f, .int .i64 jn.d, .int .i8 jn.g, .int .i64 jn.e] 51) = u2 at *
              generalize u1.heap.size = b1 at *
              have kHA0 := HA.out.c0
              have kHA1 := HA.out.c1
              have kHA2 := HA.out.c2
              have kHA3 := HA.out.c3
              have kHC0 := HC.out.c0
              have kHC1 := HC.out.c1
              have kHC2 := HC.out.c2
              have kHC3 := HC.out.c3
              have kHJ0 := HJ.out.c0
              have kHJ1 := HJ.out.c1
              have kHJ2 := HJ.out.c2
              have kHJ3 := HJ.out.c3
              go_wp2_with fail
              refine (c1.out _ HB.out.below).mono ?_
              rintro e u3 ⟨rfl, hbl⟩
              clear kHA0 kHA1 kHA2 kHA3 kHC0 kHC1 kHC2 kHC3 kHJ0 kHJ1 kHJ2 kHJ3
              have HB := Kp.mk (HB.out.step hbl)
              have HA := Kp.mk (HA.out.step hbl)
              have HC := Kp.mk (HC.out.step hbl)
              have HJ := Kp.mk (HJ.out.step hbl)
              clear hbl
              have kHA0 := HA.out.c0
              have kHA1 := HA.out.c1
              have kHA2 := HA.out.c2
              have kHA3 := HA.out.c3
              have kHC0 := HC.out.c0
              have kHC1 := HC.out.c1
              have kHC2 := HC.out.c2
              have kHC3 := HC.out.c3
              have kHJ0 := HJ.out.c0
              have kHJ1 := HJ.out.c1
              have kHJ2 := HJ.out.c2
              have kHJ3 := HJ.out.c3
              go_upto_region 14 with fail
              clear kHA0 kHA1 kHA2 kHA3 kHC0 kHC1 kHC2 kHC3 kHJ0 kHJ1 kHJ2 kHJ3
              have HM := Kp.mk (rg_new cm 51 HB.out.below)
              have hbl := (Below.refl u3.heap.size u3).alloc (Nat.le_refl _) (.cells #[.int .i8 cm.f, .int .i64 cm.d, .int .i8 cm.g, .int .i64 cm.e] 51)
              have HB := Kp.mk (HB.out.step hbl)
              have HA := Kp.mk (HA.out.step hbl)
              have HC := Kp.mk (HC.out.step hbl)
              have HJ := Kp.mk (HJ.out.step hbl)
              clear hbl
              generalize u3.alloc (.cells #[.int .i8 cm.f, .int .i64 cm.d, .int .i8 cm.g, .int .i64 cm.e] 51) = u4 at *
              generalize u3.heap.size = b2 at *
              have kHA0 := HA.out.c0
              have kHA1 := HA.out.c1
              have kHA2 := HA.out.c2
              have kHA3 := HA.out.c3
              have kHC0 := HC.out.c0
              have kHC1 := HC.out.c1
              have kHC2 := HC.out.c2
              have kHC3 := HC.out.c3
              have kHJ0 := HJ.out.c0
              have kHJ1 := HJ.out.c1
              have kHJ2 := HJ.out.c2
              have kHJ3 := HJ.out.c3
              have kHM0 := HM.out.c0
              have kHM1 := HM.out.c1
              have kHM2 := HM.out.c2
              have kHM3 := HM.out.c3
              go_wp2_with fail
              refine (x1.out _ HB.out.below).mono ?_
              rintro e u5 ⟨rfl, hbl⟩
              clear kHA0 kHA1 kHA2 kHA3 kHC0 kHC1 kHC2 kHC3 kHJ0 kHJ1 kHJ2 kHJ3 kHM0 kHM1 kHM2 kHM3
              have HB := Kp.mk (HB.out.step hbl)
              have HA := Kp.mk (HA.out.step hbl)
              have HC := Kp.mk (HC.out.step hbl)
              have HJ := Kp.mk (HJ.out.step hbl)
              have HM := Kp.mk (HM.out.step hbl)
              clear hbl
              have kHA0 := HA.out.c0
              have kHA1 := HA.out.c1
              have kHA2 := HA.out.c2
              have kHA3 := HA.out.c3
              have kHC0 := HC.out.c0
              have kHC1 := HC.out.c1
              have kHC2 := HC.out.c2
              have kHC3 := HC.out.c3
              have kHJ0 := HJ.out.c0
              have kHJ1 := HJ.out.c1
              have kHJ2 := HJ.out.c2
              have kHJ3 := HJ.out.c3
              have kHM0 := HM.out.c0
              have kHM1 := HM.out.c1
              have kHM2 := HM.out.c2
              have kHM3 := HM.out.c3
              go_wp2_with fail
              refine (i1.out _ HB.out.below).mono ?_
              rintro e u6 ⟨rfl, hbl⟩
              clear kHA0 kHA1 kHA2 kHA3 kHC0 kHC1 kHC2 kHC3 kHJ0 kHJ1 kHJ2 kHJ3 kHM0 kHM1 kHM2 kHM3
              have HB := Kp.mk (HB.out.step hbl)
              have HA := Kp.mk (HA.out.step hbl)
              have HC := Kp.mk (HC.out.step hbl)
              have HJ := Kp.mk (HJ.out.step hbl)
              have HM := Kp.mk (HM.out.step hbl)
              clear hbl
              have kHA0 := HA.out.c0
              have kHA1 := HA.out.c1
              have kHA2 := HA.out.c2
              have kHA3 := HA.out.c3
              have kHC0 := HC.out.c0
              have kHC1 := HC.out.c1
              have kHC2 := HC.out.c2
              have kHC3 := HC.out.c3
              have kHJ0 := HJ.out.c0
              have kHJ1 := HJ.out.c1
              have kHJ2 := HJ.out.c2
              have kHJ3 := HJ.out.c3
              have kHM0 := HM.out.c0
              have kHM1 := HM.out.c1
              have kHM2 := HM.out.c2
              have kHM3 := HM.out.c3
              go_wp2_with fail
              refine (rl.out _ HB.out.below).mono ?_
              rintro e u7 ⟨rfl, hbl⟩
              clear kHA0 kHA1 kHA2 kHA3 kHC0 kHC1 kHC2 kHC3 kHJ0 kHJ1 kHJ2 kHJ3 kHM0 kHM1 kHM2 kHM3
              have HB := Kp.mk (HB.out.step hbl)
              have HA := Kp.mk (HA.out.step hbl)
              have HC := Kp.mk (HC.out.step hbl)
              have HJ := Kp.mk (HJ.out.step hbl)
              have HM := Kp.mk (HM.out.step hbl)
              clear hbl
              have kHA0 := HA.out.c0
              have kHA1 := HA.out.c1
              have kHA2 := HA.out.c2
              have kHA3 := HA.out.c3
              have kHC0 := HC.out.c0
              have kHC1 := HC.out.c1
              have kHC2 := HC.out.c2
              have kHC3 := HC.out.c3
              have kHJ0 := HJ.out.c0
              have kHJ1 := HJ.out.c1
              have kHJ2 := HJ.out.c2
              have kHJ3 := HJ.out.c3
              have kHM0 := HM.out.c0
              have kHM1 := HM.out.c1
              have kHM2 := HM.out.c2
              have kHM3 := HM.out.c3
              go_wp2_with fail
              go_ret
              exact ⟨rfl, HB.out.below⟩
            · have j1 : Kp (∀ u, Below w.heap.size w u → Calls Tryd.prog 28 #[.agg #[.int .i8 a.f, .int .i64 a.d, .int .i8 a.g, .int .i64 a.e], .agg #[.int .i8 b.f, .int .i64 b.d, .int .i8 b.g, .int .i64 b.e]] u fun e w' => e = .returned (.tuple #[.agg #[.int .i8 jn.f, .int .i64 jn.d, .int .i8 jn.g, .int .i64 jn.e], .bool true]) ∧ Below u.heap.size u w') := Kp.mk (fun u hw => HCC.out.join u (HI.out u hw) HSA.out.ok.toIn HSB.out.ok.toIn e3.symm hjn)
              have c1 : Kp (∀ u, Below w.heap.size w u → Calls Tryd.prog 29 #[.agg #[.int .i8 a.f, .int .i64 a.d, .int .i8 a.g, .int .i64 a.e], .agg #[.int .i8 b.f, .int .i64 b.d, .int .i8 b.g, .int .i64 b.e]] u fun e w' => e = .returned (.tuple #[.agg #[.int .i8 cm.f, .int .i64 cm.d, .int .i8 cm.g, .int .i64 cm.e], .bool true]) ∧ Below u.heap.size u w') := Kp.mk (fun u hw => HCC.out.comm u (HI.out u hw) HSA.out.ok.toIn HSB.out.ok.toIn hm hcm)
              clear hz hjn hcm e2 e4 hvn hvo e3 hm
              have kHA0 := HA.out.c0
              have kHA1 := HA.out.c1
              have kHA2 := HA.out.c2
              have kHA3 := HA.out.c3
              have kHC0 := HC.out.c0
              have kHC1 := HC.out.c1
              have kHC2 := HC.out.c2
              have kHC3 := HC.out.c3
              go_wp2_with fail
              refine (j1.out _ HB.out.below).mono ?_
              rintro e u1 ⟨rfl, hbl⟩
              clear kHA0 kHA1 kHA2 kHA3 kHC0 kHC1 kHC2 kHC3
              have HB := Kp.mk (HB.out.step hbl)
              have HA := Kp.mk (HA.out.step hbl)
              have HC := Kp.mk (HC.out.step hbl)
              clear hbl
              have kHA0 := HA.out.c0
              have kHA1 := HA.out.c1
              have kHA2 := HA.out.c2
              have kHA3 := HA.out.c3
              have kHC0 := HC.out.c0
              have kHC1 := HC.out.c1
              have kHC2 := HC.out.c2
              have kHC3 := HC.out.c3
              go_upto_region 13 with fail
              clear kHA0 kHA1 kHA2 kHA3 kHC0 kHC1 kHC2 kHC3
              have HJ := Kp.mk (rg_new jn 51 HB.out.below)
              have hbl := (Below.refl u1.heap.size u1).alloc (Nat.le_refl _) (.cells #[.int .i8 jn.f, .int .i64 jn.d, .int .i8 jn.g, .int .i64 jn.e] 51)
              have HB := Kp.mk (HB.out.step hbl)
              have HA := Kp.mk (HA.out.step hbl)
              have HC := Kp.mk (HC.out.step hbl)
              clear hbl
              generalize u1.alloc (.cells #[.int .i8 jn.f, .int .i64 jn.d, .int .i8 jn.g, .int .i64 jn.e] 51) = u2 at *
              generalize u1.heap.size = b1 at *
              have kHA0 := HA.out.c0
              have kHA1 := HA.out.c1
              have kHA2 := HA.out.c2
              have kHA3 := HA.out.c3
              have kHC0 := HC.out.c0
              have kHC1 := HC.out.c1
              have kHC2 := HC.out.c2
              have kHC3 := HC.out.c3
              have kHJ0 := HJ.out.c0
              have kHJ1 := HJ.out.c1
              have kHJ2 := HJ.out.c2
              have kHJ3 := HJ.out.c3
              go_wp2_with fail
              refine (c1.out _ HB.out.below).mono ?_
              rintro e u3 ⟨rfl, hbl⟩
              clear kHA0 kHA1 kHA2 kHA3 kHC0 kHC1 kHC2 kHC3 kHJ0 kHJ1 kHJ2 kHJ3
              have HB := Kp.mk (HB.out.step hbl)
              have HA := Kp.mk (HA.out.step hbl)
              have HC := Kp.mk (HC.out.step hbl)
              have HJ := Kp.mk (HJ.out.step hbl)
              clear hbl
              have kHA0 := HA.out.c0
              have kHA1 := HA.out.c1
              have kHA2 := HA.out.c2
              have kHA3 := HA.out.c3
              have kHC0 := HC.out.c0
              have kHC1 := HC.out.c1
              have kHC2 := HC.out.c2
              have kHC3 := HC.out.c3
              have kHJ0 := HJ.out.c0
              have kHJ1 := HJ.out.c1
              have kHJ2 := HJ.out.c2
              have kHJ3 := HJ.out.c3
              go_upto_region 14 with fail
              clear kHA0 kHA1 kHA2 kHA3 kHC0 kHC1 kHC2 kHC3 kHJ0 kHJ1 kHJ2 kHJ3
              have HM := Kp.mk (rg_new cm 51 HB.out.below)
              have hbl := (Below.refl u3.heap.size u3).alloc (Nat.le_refl _) (.cells #[.int .i8 cm.f, .int .i64 cm.d, .int .i8 cm.g, .int .i64 cm.e] 51)
              have HB := Kp.mk (HB.out.step hbl)
              have HA := Kp.mk (HA.out.step hbl)
              have HC := Kp.mk (HC.out.step hbl)
              have HJ := Kp.mk (HJ.out.step hbl)
              clear hbl
              generalize u3.alloc (.cells #[.int .i8 cm.f, .int .i64 cm.d, .int .i8 cm.g, .int .i64 cm.e] 51) = u4 at *
              generalize u3.heap.size = b2 at *
              have kHA0 := HA.out.c0
              have kHA1 := HA.out.c1
              have kHA2 := HA.out.c2
              have kHA3 := HA.out.c3
              have kHC0 := HC.out.c0
              have kHC1 := HC.out.c1
              have kHC2 := HC.out.c2
              have kHC3 := HC.out.c3
              have kHJ0 := HJ.out.c0
              have kHJ1 := HJ.out.c1
              have kHJ2 := HJ.out.c2
              have kHJ3 := HJ.out.c3
              have kHM0 := HM.out.c0
              have kHM1 := HM.out.c1
              have kHM2 := HM.out.c2
              have kHM3 := HM.out.c3
              go_wp2_with fail
              refine (x1.out _ HB.out.below).mono ?_
              rintro e u5 ⟨rfl, hbl⟩
              clear kHA0 kHA1 kHA2 kHA3 kHC0 kHC1 kHC2 kHC3 kHJ0 kHJ1 kHJ2 kHJ3 kHM0 kHM1 kHM2 kHM3
              have HB := Kp.mk (HB.out.step hbl)
              have HA := Kp.mk (HA.out.step hbl)
              have HC := Kp.mk (HC.out.step hbl)
              have HJ := Kp.mk (HJ.out.step hbl)
              have HM := Kp.mk (HM.out.step hbl)
              clear hbl
              have kHA0 := HA.out.c0
              have kHA1 := HA.out.c1
              have kHA2 := HA.out.c2
              have kHA3 := HA.out.c3
              have kHC0 := HC.out.c0
              have kHC1 := HC.out.c1
              have kHC2 := HC.out.c2
              have kHC3 := HC.out.c3
              have kHJ0 := HJ.out.c0
              have kHJ1 := HJ.out.c1
              have kHJ2 := HJ.out.c2
              have kHJ3 := HJ.out.c3
              have kHM0 := HM.out.c0
              have kHM1 := HM.out.c1
              have kHM2 := HM.out.c2
              have kHM3 := HM.out.c3
              go_wp2_with fail
              refine (i1.out _ HB.out.below).mono ?_
              rintro e u6 ⟨rfl, hbl⟩
              clear kHA0 kHA1 kHA2 kHA3 kHC0 kHC1 kHC2 kHC3 kHJ0 kHJ1 kHJ2 kHJ3 kHM0 kHM1 kHM2 kHM3
              have HB := Kp.mk (HB.out.step hbl)
              have HA := Kp.mk (HA.out.step hbl)
              have HC := Kp.mk (HC.out.step hbl)
              have HJ := Kp.mk (HJ.out.step hbl)
              have HM := Kp.mk (HM.out.step hbl)
              clear hbl
              have kHA0 := HA.out.c0
              have kHA1 := HA.out.c1
              have kHA2 := HA.out.c2
              have kHA3 := HA.out.c3
              have kHC0 := HC.out.c0
              have kHC1 := HC.out.c1
              have kHC2 := HC.out.c2
              have kHC3 := HC.out.c3
              have kHJ0 := HJ.out.c0
              have kHJ1 := HJ.out.c1
              have kHJ2 := HJ.out.c2
              have kHJ3 := HJ.out.c3
              have kHM0 := HM.out.c0
              have kHM1 := HM.out.c1
              have kHM2 := HM.out.c2
              have kHM3 := HM.out.c3
              go_wp2_with fail
              refine (rl.out _ HB.out.below).mono ?_
              rintro e u7 ⟨rfl, hbl⟩
              clear kHA0 kHA1 kHA2 kHA3 kHC0 kHC1 kHC2 kHC3 kHJ0 kHJ1 kHJ2 kHJ3 kHM0 kHM1 kHM2 kHM3
              have HB := Kp.mk (HB.out.step hbl)
              have HA := Kp.mk (HA.out.step hbl)
              have HC := Kp.mk (HC.out.step hbl)
              have HJ := Kp.mk (HJ.out.step hbl)
              have HM := Kp.mk (HM.out.step hbl)
              clear hbl
              have kHA0 := HA.out.c0
              have kHA1 := HA.out.c1
              have kHA2 := HA.out.c2
              have kHA3 := HA.out.c3
              have kHC0 := HC.out.c0
              have kHC1 := HC.out.c1
              have kHC2 := HC.out.c2
              have kHC3 := HC.out.c3
              have kHJ0 := HJ.out.c0
              have kHJ1 := HJ.out.c1
              have kHJ2 := HJ.out.c2
              have kHJ3 := HJ.out.c3
              have kHM0 := HM.out.c0
              have kHM1 := HM.out.c1
              have kHM2 := HM.out.c2
              have kHM3 := HM.out.c3
              go_wp2_with fail
              go_ret
              exact ⟨rfl, HB.out.below⟩
end Go.Proofs.YteddfolhpoikcaaDoor
