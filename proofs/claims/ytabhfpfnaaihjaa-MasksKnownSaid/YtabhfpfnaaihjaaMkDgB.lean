/-
  DERIVED. CONTRACTS of package masks: the number of digits, the digits of a mask, where digits and a mask clash.
-/
import Derived.Test.YtabhfpfnaaihjaaMkDg
namespace Go.Proofs.Ytabhfpfnaaihjaa
open Go.RowKit

/-- the number of the first digits -/
def vlF (f : Nat → Nat) : Nat → Nat
  | 0 => 0
  | k + 1 => 10 * vlF f k + f k
theorem vlF_lt {f : Nat → Nat} (h : ∀ k, f k ≤ 9) : ∀ k, vlF f k < 10 ^ k
  | 0 => by simp [vlF]
  | k + 1 => by have := vlF_lt h k; have := h k; simp only [vlF, Nat.pow_succ]; omega
theorem vlF_lt18 {f : Nat → Nat} (h : ∀ k, f k ≤ 9) {k : Nat} (hk : k ≤ 18) : vlF f k < 1000000000000000000 := by
  have h1 := vlF_lt h k
  have h2 := ten_le hk
  omega
/-- the code at a place -/
def cd (s : ByteArray) (k : Nat) : Nat := (fwd s).getD k 0
theorem cd_at {s : ByteArray} {k : Nat} (h : k < s.size) : cd s k = s[k].toNat := by unfold cd; rw [List.getD_eq_getElem?_getD, fwd_get h]; rfl
def flF (s : ByteArray) (g m : Nat) (k : Nat) : Nat := if k < m then fl (cd s k) g else 0
theorem iter1 (w : World) (A : Obj) (s : ByteArray) (m : Nat) : ((w.alloc A).alloc (.stringIter s m)).iterPos (w.heap.size + 1) = m := by
  have h := World.iterPos_iter (w.alloc A) s m
  rw [World.size_alloc] at h
  exact h
theorem iter2 (w : World) (A B : Obj) (s : ByteArray) (m : Nat) : (((w.alloc A).alloc B).alloc (.stringIter s m)).iterPos (w.heap.size + 2) = m := by
  have h := World.iterPos_iter ((w.alloc A).alloc B) s m
  rw [World.size_alloc, World.size_alloc] at h
  exact h
theorem elemDg : Try.prog.elem 58 = 2 := by kernel_rfl
theorem lenDg : Try.prog.arrayLen 58 = 18 := by kernel_rfl
theorem infoE : (Try.prog.info? 2).map (·.size) = some 1 := by kernel_rfl
theorem sizeE (w : World) : (sizeOf (Try.prog.elem 58)).run Try.prog w = .ok 1 w := by
  rw [elemDg]
  have hi := infoE
  cases hq : Try.prog.info? 2 with
  | none => simp [hq] at hi
  | some i =>
    have hs : i.size = 1 := by simpa [hq] using hi
    simp [sizeOf, typeInfo, hq, hs]
theorem slice_h {L : Nat} (g : Nat) (w : World) (hL : L ≤ 18) : (Instr.sliceAt 58 (.pointer (some ⟨g, 0, none⟩)) none (some (.int .i64 (L : Int))) none).run Try.prog w = .ok (.slice (some ⟨g, 0, none⟩) L 18) w := by
  have h := run_sliceAt_array_h (P := Try.prog) w 58 ⟨g, 0, none⟩ Try.underlying58 .i64 (L : Int) (by omega) (by rw [lenDg]; omega)
  rw [h, sizeE, lenDg]
  have hadd : (⟨g, 0, none⟩ : Addr).add 0 = ⟨g, 0, none⟩ := by unfold Addr.add; split <;> simp_all
  simp [Result.andThen, slicedAt, hadd]
theorem slice_l {l : Nat} (g : Nat) (w : World) (hL : l ≤ 18) : (Instr.sliceAt 58 (.pointer (some ⟨g, 0, none⟩)) (some (.int .i64 (l : Int))) none none).run Try.prog w = .ok (.slice (some (if 18 = l then ⟨g, 0, none⟩ else ⟨g, l, none⟩)) (18 - l) (18 - l)) w := by
  have h := run_sliceAt_array_l (P := Try.prog) w 58 ⟨g, 0, none⟩ Try.underlying58 .i64 (l : Int) (by omega) (by rw [lenDg]; omega)
  rw [h, sizeE, lenDg]
  by_cases e : 18 = l
  · subst e; simp [Result.andThen, slicedAt]
  · have hadd : (⟨g, 0, none⟩ : Addr).add l = ⟨g, l, none⟩ := by unfold Addr.add; split <;> simp_all
    simp [Result.andThen, slicedAt, e, hadd]
set_option maxHeartbeats 1000000 in
theorem number_is {f : Nat → Nat} {L v : Nat} (w : World) (hL : L ≤ 18) (hf : ∀ k, f k ≤ 9) (hv : vlF f L = v) :
    Calls Try.prog 37 #[.agg (cl f), .int .i64 L] w fun e w' => e = .returned (.int .i64 v) ∧ Below w.heap.size w w' := by
  have HF := Kp.mk hf
  have HV := Kp.mk hv
  clear hf hv
  have hsl := fun g w => slice_h (L := L) g w hL
  go_enter Try.func37, Try.ntmps37
  go_wp2_with fail
  go_loop [5, 11] (fun n i => ∃ (m x : Nat), m ≤ L ∧ i = .int .i64 m ∧ n = .int .i64 x ∧ Kp (x = vlF f m)) (fun _ i => L - (intOf i).toNat)
  case atStart => exact ⟨0, 0, by omega, rfl, rfl, Kp.mk rfl⟩
  case round =>
    obtain ⟨m, x, hm, rfl, rfl, HX⟩ := hrel
    by_cases hlt : m < L
    · have hget := cl_get (f := f) (show m < 18 by omega)
      have h10 : 10 * x + f m < 1000000000000000000 := by
        have := vlF_lt18 HF.out (show m + 1 ≤ 18 by omega)
        simp only [vlF] at this
        rw [HX.out]; exact this
      have HN := Kp.mk (show 10 * x + f m = vlF f (m + 1) by simp only [vlF]; rw [HX.out])
      generalize f m = g at *
      have e1 : IntKind.i64.wrap (10 * (x : Int)) = 10 * (x : Int) := IntWalk.i64_in _ (by omega)
      have e2 : IntKind.i64.wrap (10 * (x : Int) + (g : Int)) = 10 * (x : Int) + (g : Int) := IntWalk.i64_in _ (by omega)
      clear h10
      go_wp2_with fail
      go_round
      case rel => exact ⟨m + 1, 10 * x + g, by omega, by go_num, by go_num, Kp.mk HN.out⟩
      case measure => simp [intOf]; omega
    · obtain rfl : m = L := by omega
      go_wp2_with fail
      go_ret
      exact ⟨by rw [← HV.out, ← HX.out]; rfl, (Below.refl w.heap.size w).alloc (Nat.le_refl _) _⟩
set_option maxHeartbeats 1000000 in
theorem filled_is {s : ByteArray} {g : Nat} (w : World) (hs : Mk s) :
    Calls Try.prog 36 #[.string s, .int .i64 g] w fun e w' => e = .returned (.agg (cl (flF s g s.size))) ∧ Below w.heap.size w w' := by
  have HS := Kp.mk hs
  have hmost := hs.most
  clear hs
  go_enter Try.func36, Try.ntmps36
  go_wp2_with fail
  go_loopw [6] (fun _ wr => ∃ m : Nat, m ≤ s.size ∧ wr = ((w.alloc (.cells (cl fun _ => 0) 58)).alloc (.cells (cl (flF s g m)) 58)).alloc (.stringIter s m)) (fun _ wr => s.size - wr.iterPos (w.heap.size + 2))
  case atStart => exact ⟨0, by omega, by rw [show cl (flF s g 0) = cl (fun _ => 0) from cl_congr (fun k hk => by unfold flF; rw [if_neg (by omega)])]; rfl⟩
  case round =>
    obtain ⟨m, hm, rfl⟩ := hrel
    by_cases hlt : m < s.size
    · have hc := HS.out.code hlt
      have hnx := fun ty => run_next_ascii (P := Try.prog) ((w.alloc (.cells (cl fun _ => 0) 58)).alloc (.cells (cl (flF s g m)) 58)) s m ty hlt (by omega)
      simp only [World.iter, World.size_alloc] at hnx
      have hset : (cl (flF s g m)).setIfInBounds m (.int .i64 (fl s[m].toNat g : Nat)) = cl (flF s g (m + 1)) := by
        rw [cl_set (by omega)]
        apply cl_congr
        intro k hk
        unfold flF
        by_cases e : k = m
        · rw [if_pos e, e, if_pos (by omega), cd_at hlt]
        · rw [if_neg e]
          by_cases g : k < m
          · rw [if_pos g, if_pos (by omega)]
          · rw [if_neg g, if_neg (by omega)]
      have hget := cl_get (f := flF s g m) (show m < 18 by omega)
      have H1 := Kp.mk hset
      have HC := Kp.mk (fun w => fill_is (g := g) w hc)
      clear hset
      generalize s[m].toNat = c at *
      generalize fl c g = r at *
      generalize flF s g m m = z at *
      clear hc
      go_wp2_with fail
      refine (HC.out _).mono ?_
      rintro e w' ⟨rfl, rfl⟩
      go_wp2_with fail
      go_roundw
      case rel =>
        first
          | exact ⟨m + 1, by omega, by rw [H1.out]⟩
          | ((repeat apply Exists.intro); exact ⟨⟨m + 1, by omega, by rw [H1.out]⟩, rfl⟩)
      case measure => rw [iter2, iter2]; omega
    · obtain rfl : m = s.size := by omega
      have hnx := fun ty => run_next_end (P := Try.prog) ((w.alloc (.cells (cl fun _ => 0) 58)).alloc (.cells (cl (flF s g s.size)) 58)) s s.size ty (by omega)
      simp only [World.iter, World.size_alloc] at hnx
      have g1 : (((w.alloc (.cells (cl fun _ => 0) 58)).alloc (.cells (cl (flF s g s.size)) 58)).alloc (.stringIter s s.size)).heap[w.heap.size + 1]? = some (.cells (cl (flF s g s.size)) 58) := by rw [heap_alloc_old _ _ (by simp)]; exact heap_alloc2_new _ _ _
      have g2 : (((w.alloc (.cells (cl fun _ => 0) 58)).alloc (.cells (cl (flF s g s.size)) 58)).alloc (.stringIter s s.size)).heap[w.heap.size]? = some (.cells (cl fun _ => 0) 58) := by rw [heap_alloc_old _ _ (by simp; omega)]; exact heap_alloc2_old _ _ _
      have G1 := Kp.mk g1
      have G2 := Kp.mk g2
      clear g1 g2
      go_wp2_with (first
        | refine wpList_load_row rfl 58 (.tmp 5) rfl (w.heap.size + 1) rfl 58 (cl (flF s g s.size)) (0, 0) _ G1.out Try.underlying58 rfl infoDg ?_
        | refine wpList_store_row' rfl 58 (.tmp 4) (.tmp 19) rfl w.heap.size (cl (flF s g s.size)) rfl rfl 58 (cl fun _ => 0) G2.out infoDg rfl (cl_one _) ?_)
      refine bodyPost_ret (results_cell_row (p := 4) (ty := 58) rfl _ _ w.heap.size 58 (cl (flF s g s.size)) (0, 0) _ rfl (setRow_heap _ _ _ _ _ _ G2.out) Try.underlying58 rfl infoDg) rfl ?_
      exact ⟨rfl, below_setRow ((((Below.refl w.heap.size w).alloc (Nat.le_refl _) _).alloc (by simp) _).alloc (by simp; omega) _) (Nat.le_refl _) _⟩
set_option maxHeartbeats 1000000 in
theorem clash_is {s : ByteArray} {f : Nat → Nat} (w : World) (hs : Mk s) :
    Calls Try.prog 44 #[.agg (cl f), .string s] w fun e w' =>
      (∃ c : Nat, e = .returned (.int .i64 c) ∧ c ≤ s.size ∧ (∀ k, k < c → fl (cd s k) (f k) = f k) ∧ (c < s.size → ¬ fl (cd s c) (f c) = f c)) ∧ Below w.heap.size w w' := by
  have HS := Kp.mk hs
  have hmost := hs.most
  clear hs
  go_enter Try.func44, Try.ntmps44
  go_wp2_with fail
  go_loopw [5] (fun _ wr => ∃ m : Nat, m ≤ s.size ∧ Kp (∀ k, k < m → fl (cd s k) (f k) = f k) ∧ wr = (w.alloc (.cells (cl f) 58)).alloc (.stringIter s m)) (fun _ wr => s.size - wr.iterPos (w.heap.size + 1))
  case atStart => exact ⟨0, by omega, Kp.mk (by omega), rfl⟩
  case round =>
    obtain ⟨m, hm, HK, rfl⟩ := hrel
    by_cases hlt : m < s.size
    · have hc := HS.out.code hlt
      have hnx := fun ty => run_next_ascii (P := Try.prog) (w.alloc (.cells (cl f) 58)) s m ty hlt (by omega)
      simp only [World.iter, World.size_alloc] at hnx
      have hget := cl_get (f := f) (show m < 18 by omega)
      obtain ⟨b, hb⟩ : ∃ b, (fl s[m].toNat (f m) == f m) = b := ⟨_, rfl⟩
      have HC := Kp.mk (fun w => allows_is (g := f m) w hc hb)
      rw [← cd_at hlt] at hb
      have HB := Kp.mk hb
      clear hb
      generalize s[m].toNat = c at *
      clear hc
      go_wp2_with fail
      refine (HC.out _).mono ?_
      rintro e w' ⟨rfl, rfl⟩
      cases b
      · go_wp2_with fail
        go_ret
        have hb := HB.out
        rw [beq_eq_false_iff_ne] at hb
        exact ⟨⟨m, rfl, hm, HK.out, fun _ => hb⟩, ((Below.refl w.heap.size w).alloc (Nat.le_refl _) _).alloc (by simp) _⟩
      · go_wp2_with fail
        have hb := HB.out
        rw [beq_iff_eq] at hb
        have HK2 : Kp (∀ k, k < m + 1 → fl (cd s k) (f k) = f k) := Kp.mk (fun k hk => by
          by_cases e : k = m
          · rw [e]; exact hb
          · exact HK.out k (by omega))
        go_roundw
        case rel =>
          first
            | exact ⟨m + 1, by omega, HK2, rfl⟩
            | ((repeat apply Exists.intro); exact ⟨⟨m + 1, by omega, HK2, rfl⟩, rfl⟩)
        case measure => rw [iter1, iter1]; omega
    · obtain rfl : m = s.size := by omega
      have hnx := fun ty => run_next_end (P := Try.prog) (w.alloc (.cells (cl f) 58)) s s.size ty (by omega)
      simp only [World.iter, World.size_alloc] at hnx
      go_wp2_with fail
      go_ret
      exact ⟨⟨s.size, rfl, Nat.le_refl _, HK.out, fun h => absurd h (Nat.lt_irrefl _)⟩, ((Below.refl w.heap.size w).alloc (Nat.le_refl _) _).alloc (by simp) _⟩
end Go.Proofs.Ytabhfpfnaaihjaa
