/-
  DERIVED. CONTRACT of package masks: Common.
-/
import Derived.Test.YtabhfpfnaaihjaaMkPub
import Derived.Deep.OwnRows
import Derived.BigQuiet
import Derived.WalkSmall
namespace Go.Proofs.Ytabhfpfnaaihjaa
open Go.RowKit

/-- bytes as the model holds them -/
def bl (n : Nat) (f : Nat → Nat) : Array Value := ((List.range n).map fun k => Value.int .u8 (f k : Int)).toArray
theorem bl_size (n : Nat) (f : Nat → Nat) : (bl n f).size = n := by unfold bl; simp
theorem bl_get {n : Nat} {f : Nat → Nat} {k : Nat} (h : k < n) : (bl n f)[k]? = some (.int .u8 (f k : Int)) := by
  unfold bl
  rw [List.getElem?_toArray, List.getElem?_map, List.getElem?_range h]; rfl
theorem bl_congr {n : Nat} {f g : Nat → Nat} (h : ∀ k, k < n → f k = g k) : bl n f = bl n g := by
  unfold bl
  congr 1
  apply List.map_congr_left
  intro k hk
  rw [h k (List.mem_range.1 hk)]
theorem bl_set {n : Nat} {f : Nat → Nat} {i v : Nat} (h : i < n) : (bl n f).setIfInBounds i (.int .u8 (v : Int)) = bl n (fun k => if k = i then v else f k) := by
  apply Array.ext_getElem?
  intro k
  rw [Array.getElem?_setIfInBounds]
  by_cases hk : k < n
  · rw [bl_get hk]
    by_cases e : i = k
    · subst e; rw [if_pos rfl, if_pos (by rw [bl_size]; exact h), bl_get h, if_pos rfl]
    · rw [if_neg e, bl_get hk, if_neg (fun x => e x.symm)]
  · have h1 : (bl n fun k => if k = i then v else f k)[k]? = none := by rw [Array.getElem?_eq_none_iff, bl_size]; omega
    rw [h1]
    by_cases e : i = k
    · omega
    · rw [if_neg e, Array.getElem?_eq_none_iff, bl_size]; omega
theorem bl_made (n : Nat) : madeCells #[.int .u8 0] (n * 1) = bl n (fun _ => 0) := by
  apply Array.ext'
  rw [Nat.mul_one, toList_madeCells_one]
  unfold bl
  exact (List.map_const' ..).symm ▸ by simp
theorem make_bl (n : Nat) (hn : n ≤ 1000) (w : World) : (Instr.makeSlice 22 (.int .i64 (n : Int)) (.int .i64 (n : Int))).run Try.prog w = .ok (.slice (some ⟨w.heap.size, 0, none⟩) n n) (w.alloc (.cells (bl n fun _ => 0) 5)) := by
  obtain ⟨i0, hi, hz0, hz1, hz2⟩ := info5_parts
  have hr := run_make (P := Try.prog) w 22 5 i0 (.int .u8 0) Try.underlying22 hi hz0 .i64 .i64 n n (by omega) (Int.le_refl _) (by rw [hz2]; omega) (by omega)
  simp only [Int.toNat_natCast] at hr
  rw [hr, hz1]
  show Result.ok _ (w.alloc (.cells (madeCells #[.int .u8 0] (n * 1)) _)) = _
  rw [bl_made]
/-- the common digit of a place -/
def comF (a b : ByteArray) (m k : Nat) : Nat := if k < m then cm (cd a k) (cd b k) else 0
theorem comL_get {a b : ByteArray} {k : Nat} (ha : k < a.size) (hb : k < b.size) : (comL (fwd a) (fwd b))[k]? = some (cm (cd a k) (cd b k)) := by
  unfold comL
  rw [List.getElem?_zipWith, fwd_get ha, fwd_get hb, cd_at ha, cd_at hb]
theorem comL_is {a b : ByteArray} (hs : b.size = a.size) : comL (fwd a) (fwd b) = (List.range a.size).map (comF a b a.size) := by
  apply List.ext_getElem?
  intro k
  by_cases hk : k < a.size
  · rw [comL_get hk (by omega), List.getElem?_map, List.getElem?_range hk]
    simp only [Option.map_some]
    unfold comF
    rw [if_pos hk]
  · rw [List.getElem?_eq_none (by rw [comL_len (by rw [fwd_len, fwd_len, hs]), fwd_len]; omega), List.getElem?_eq_none (by simp; omega)]
theorem comOk_step {a b : ByteArray} {m : Nat} (ha : m < a.size) (hb : m < b.size) (h : comOk ((fwd a).take m) ((fwd b).take m) = true) : comOk ((fwd a).take (m + 1)) ((fwd b).take (m + 1)) = fitB (cd a m) (cd b m) := by
  rw [fwd_snoc ha, fwd_snoc hb, comOk_snoc (by rw [fwd_take_len (by omega), fwd_take_len (by omega)]), h, cd_at ha, cd_at hb]; rfl
/-- where the loop stands -/
structure ComAt (a b : ByteArray) (w : World) (g m : Nat) (wr : World) : Prop where
  ok : comOk ((fwd a).take m) ((fwd b).take m) = true
  hp : wr.heap[g]? = some (.cells (bl a.size (comF a b m)) 5)
  bel : Below w.heap.size w wr
theorem ComAt.step {a b : ByteArray} {w wr : World} {g m v : Nat} (h : ComAt a b w g m wr) (hg : w.heap.size ≤ g) (hs : a.size = b.size) (hm : m < a.size) (hf : fitB (cd a m) (cd b m) = true) (hv : cm (cd a m) (cd b m) = v) :
    ComAt a b w g (m + 1) (wr.setCell ⟨g, m, none⟩ (.int .u8 (v : Int))) :=
  ⟨(comOk_step hm (by omega) h.ok).trans hf, by
    rw [heap_setCell_same _ _ _ _ _ _ h.hp, bl_set hm]
    rw [show bl a.size (fun k => if k = m then v else comF a b m k) = bl a.size (comF a b (m + 1)) from bl_congr (fun k hk => by
      unfold comF
      by_cases e : k = m
      · rw [if_pos e, if_pos (by omega), e, hv]
      · rw [if_neg e]
        by_cases e2 : k < m
        · rw [if_pos e2, if_pos (by omega)]
        · rw [if_neg e2, if_neg (by omega)])], h.bel.setCell hg _⟩
theorem ComAt.cell {a b : ByteArray} {w wr : World} {g m : Nat} (h : ComAt a b w g m wr) (hm : m < a.size) : wr.cell? ⟨g, m, none⟩ = some (.int .u8 (comF a b m m : Nat)) ∧ wr.frozen? ⟨g, m, none⟩ = false :=
  ⟨by rw [cell_of_row _ _ _ _ _ _ h.hp]; exact bl_get hm, frozen_of_row _ _ _ _ _ h.hp⟩
theorem ComAt.drewN {a b : ByteArray} {w wr : World} {g m : Nat} (h : ComAt a b w g m wr) (q : Nat) : ComAt a b w g m (wr.drewN q) := ⟨h.ok, h.hp, below_drewN h.bel q⟩
theorem conv_bl {w : World} {g n : Nat} {f : Nat → Nat} (h : w.heap[g]? = some (.cells (bl n f) 5)) :
    (convert 22 9 (.slice (some ⟨g, 0, none⟩) n n)).run Try.prog w = .ok (.string ⟨(((List.range n).map f).map fun d => UInt8.ofNat d).toArray⟩) w := by
  have := run_convert_bytes_arg (P := Try.prog) w 22 5 Try.underlying22 Try.underlying5 g 0 n n ((List.range n).map fun k => (f k : Int)) (by simp) (fun i hi => by
    rw [Nat.zero_add, cell_of_row _ _ _ _ _ _ h, bl_get hi]
    rw [List.getD_eq_getElem?_getD, List.getElem?_map, List.getElem?_range hi]
    rfl) 9 Try.underlying9
  rw [this]
  unfold strOfNums
  simp [Function.comp_def]
set_option maxRecDepth 100000 in
set_option maxHeartbeats 4000000 in
theorem common_is {a b u : ByteArray} {c : Int} (w : World) (ha : Mk a) (hb : Mk b) (hc : comE a b = (u, c)) :
    Calls Try.prog 28 #[.string a, .string b] w fun e w' => e = .returned (.tuple #[.string u, .int .i64 c]) ∧ Below w.heap.size w w' := by
  have r1 := Kp.mk (fun w => check_any w (by have := ha.most; omega) (check_of_mk ha))
  have r2 := Kp.mk (fun w => check_any w (by have := hb.most; omega) (check_of_mk hb))
  have hm := ha.most
  unfold comE at hc
  by_cases hs : a.size = b.size
  · rw [if_pos hs] at hc
    have b1 : ((a.size : Int) != (b.size : Int)) = false := by rw [bne_eq_false_iff_eq]; omega
    have hmk := fun w => make_bl a.size (by omega) w
    have HS := Kp.mk hs
    have HC := Kp.mk hc
    have HA := Kp.mk ha
    have HBm := Kp.mk hb
    clear hs hc ha hb
    go_enter Try.func28, Try.ntmps28
    go_wp2_with fail
    refine (r1.out _).mono ?_
    rintro e w1 ⟨rfl, hbl⟩
    have HB := Kp.mk hbl
    clear hbl
    go_wp2_with fail
    refine (r2.out _).mono ?_
    rintro e w2 ⟨rfl, hbl⟩
    have HB := Kp.mk (HB.out.trans (hbl.mono HB.out.size))
    clear hbl
    go_wp2_with fail
    have hgW := Kp.mk HB.out.size
    have HB := Kp.mk (HB.out.alloc HB.out.size (.cells (bl a.size fun _ => 0) 5))
    have HG : Kp ((w2.alloc (.cells (bl a.size fun _ => 0) 5)).heap[w2.heap.size]? = some (.cells (bl a.size fun _ => 0) 5)) := Kp.mk (heap_alloc_last _ _)
    have HV0 : Kp (ComAt a b w w2.heap.size 0 (w2.alloc (.cells (bl a.size fun _ => 0) 5))) := Kp.mk ⟨by simp [comOk], by rw [HG.out, show bl a.size (fun _ => 0) = bl a.size (comF a b 0) from bl_congr (fun k hk => by unfold comF; rw [if_neg (by omega)])], HB.out⟩
    clear HG HB
    generalize w2.heap.size = g at *
    go_loopw [30] (fun i wr => ∃ m : Nat, m ≤ a.size ∧ i = .int .i64 m ∧ Kp (ComAt a b w g m wr)) (fun i _ => a.size - (intOf i).toNat)
    case atStart => exact ⟨0, by omega, rfl, HV0⟩
    case round =>
      obtain ⟨m, hm', rfl, HV⟩ := hrel
      by_cases hlt : m < a.size
      · have hltb : m < b.size := by have := HS.out; omega
        have hcell := (HV.out.cell hlt).1
        have hfro := (HV.out.cell hlt).2
        have x256 : a[m].toNat < 256 := a[m].toNat_lt
        have y256 : b[m].toNat < 256 := b[m].toNat_lt
        by_cases ga : a[m].toNat = 88
        · have t1 : ((a[m].toNat : Int) == 88) = true := by rw [beq_iff_eq]; omega
          have HF := Kp.mk (show fitB (cd a m) (cd b m) = true by rw [cd_at hlt, cd_at hltb]; exact (fitB_iff _ _).2 (.inr (.inl ga)))
          have HCM := Kp.mk (show cm (cd a m) (cd b m) = b[m].toNat by rw [cd_at hlt, cd_at hltb]; unfold cm; rw [if_pos ga])
          have HN2 := Kp.mk (HV.out.step hgW.out HS.out hlt HF.out HCM.out)
          clear ga
          go_wp2_with fail
          go_roundw
          case rel =>
            first
              | exact ⟨m + 1, by omega, by go_num, HN2⟩
              | ((repeat apply Exists.intro); exact ⟨⟨m + 1, by omega, by go_num, HN2⟩, rfl⟩)
          case measure => simp [intOf] <;> omega
        · have t1 : ((a[m].toNat : Int) == 88) = false := by rw [beq_eq_false_iff_ne]; omega
          by_cases gc : a[m].toNat = b[m].toNat
          · have t2 : ((a[m].toNat : Int) == (b[m].toNat : Int)) = true := by rw [beq_iff_eq]; omega
            have HF := Kp.mk (show fitB (cd a m) (cd b m) = true by rw [cd_at hlt, cd_at hltb]; exact (fitB_iff _ _).2 (.inr (.inr gc.symm)))
            have HCM := Kp.mk (show cm (cd a m) (cd b m) = b[m].toNat by rw [cd_at hlt, cd_at hltb]; unfold cm; rw [if_neg ga]; exact gc)
            clear ga gc hcell hfro
            go_wp2_with fail
            go_quiet (fail)
            generalize hwq : World.drewN wr _ = wq
            have HV := Kp.mk (show ComAt a b w g m wq by rw [← hwq]; exact HV.out.drewN _)
            clear hwq
            have hcell := (HV.out.cell hlt).1
            have hfro := (HV.out.cell hlt).2
            have HN2 := Kp.mk (HV.out.step hgW.out HS.out hlt HF.out HCM.out)
            go_wp2_with fail
            go_roundw
            case rel =>
              first
                | exact ⟨m + 1, by omega, by go_num, HN2⟩
                | ((repeat apply Exists.intro); exact ⟨⟨m + 1, by omega, by go_num, HN2⟩, rfl⟩)
            case measure => simp [intOf] <;> omega
          · have t2 : ((a[m].toNat : Int) == (b[m].toNat : Int)) = false := by rw [beq_eq_false_iff_ne]; omega
            by_cases gb : b[m].toNat = 88
            · have t3 : ((b[m].toNat : Int) == 88) = true := by rw [beq_iff_eq]; omega
              have HF := Kp.mk (show fitB (cd a m) (cd b m) = true by rw [cd_at hlt, cd_at hltb]; exact (fitB_iff _ _).2 (.inl gb))
              have HCM := Kp.mk (show cm (cd a m) (cd b m) = a[m].toNat by rw [cd_at hlt, cd_at hltb]; unfold cm; rw [if_neg ga])
              clear ga gb gc hcell hfro
              go_wp2_with fail
              go_quiet (fail)
              generalize hwq : World.drewN wr _ = wq
              have HV := Kp.mk (show ComAt a b w g m wq by rw [← hwq]; exact HV.out.drewN _)
              clear hwq
              have hcell := (HV.out.cell hlt).1
              have hfro := (HV.out.cell hlt).2
              have HN2 := Kp.mk (HV.out.step hgW.out HS.out hlt HF.out HCM.out)
              go_wp2_with fail
              go_roundw
              case rel =>
                first
                  | exact ⟨m + 1, by omega, by go_num, HN2⟩
                  | ((repeat apply Exists.intro); exact ⟨⟨m + 1, by omega, by go_num, HN2⟩, rfl⟩)
              case measure => simp [intOf] <;> omega
            · have t3 : ((b[m].toNat : Int) == 88) = false := by rw [beq_eq_false_iff_ne]; omega
              have hno : comOk (fwd a) (fwd b) = false := by
                apply comOk_bad (m := m + 1)
                rw [comOk_step hlt hltb HV.out.ok, cd_at hlt, cd_at hltb]
                cases h : fitB a[m].toNat b[m].toNat
                · rfl
                · rcases (fitB_iff _ _).1 h with h | h | h
                  · exact absurd h gb
                  · exact absurd h ga
                  · exact absurd h.symm gc
              have huc : u = ⟨#[]⟩ ∧ c = 16 := by
                have := HC.out
                rw [hno, if_neg (by decide)] at this
                cases this
                exact ⟨rfl, rfl⟩
              obtain ⟨rfl, rfl⟩ := huc
              clear ga gb gc hcell hfro hno
              go_wp2_with fail
              go_quiet (fail)
              generalize hwq : World.drewN wr _ = wq
              have HV := Kp.mk (show ComAt a b w g m wq by rw [← hwq]; exact HV.out.drewN _)
              clear hwq
              go_wp2_with fail
              go_ret2
              exact ⟨rfl, HV.out.bel⟩
      · obtain rfl : m = a.size := by omega
        have hyes : comOk (fwd a) (fwd b) = true := by
          have := HV.out.ok
          rw [fwd_all, HS.out, fwd_all] at this; exact this
        have huc : u = comS a b ∧ c = 0 := by
          have := HC.out
          rw [if_pos hyes] at this
          cases this
          exact ⟨rfl, rfl⟩
        obtain ⟨rfl, rfl⟩ := huc
        have hcv := conv_bl HV.out.hp
        rw [← comL_is HS.out.symm, show (⟨((comL (fwd a) (fwd b)).map fun d => UInt8.ofNat d).toArray⟩ : ByteArray) = comS a b by unfold comS; rw [if_pos hyes]] at hcv
        clear hyes
        go_wp2_with fail
        go_ret2
        exact ⟨rfl, HV.out.bel⟩
  · rw [if_neg hs] at hc
    cases hc
    have b1 : ((a.size : Int) != (b.size : Int)) = true := by rw [bne_iff_ne]; omega
    clear hs ha hb
    go_enter Try.func28, Try.ntmps28
    go_wp2_with fail
    refine (r1.out _).mono ?_
    rintro e w1 ⟨rfl, hbl⟩
    have HB := Kp.mk hbl
    clear hbl
    go_wp2_with fail
    refine (r2.out _).mono ?_
    rintro e w2 ⟨rfl, hbl⟩
    have HB := Kp.mk (HB.out.trans (hbl.mono HB.out.size))
    clear hbl
    go_wp2_with fail
    go_ret2
    exact ⟨rfl, HB.out⟩
set_option maxHeartbeats 1000000 in
theorem common_bad' {a b : ByteArray} {c : Int} (w : World) (ha : a.size ≤ 1000) (hb : b.size ≤ 1000) (h0 : ¬ c = 0) (h : checkI a = c ∨ checkI a = 0 ∧ checkI b = c) :
    Calls Try.prog 28 #[.string a, .string b] w fun e w' => e = .returned (.tuple #[.string ⟨#[]⟩, .int .i64 c]) ∧ Below w.heap.size w w' := by
  have t : (c != 0) = true := by rw [bne_iff_ne]; exact h0
  rcases h with h | ⟨h1, h2⟩
  · have r1 := Kp.mk (fun w => check_any w ha h)
    clear h0 h
    go_enter Try.func28, Try.ntmps28
    go_wp2_with fail
    refine (r1.out _).mono ?_
    rintro e w1 ⟨rfl, hbl⟩
    have HB := Kp.mk hbl
    clear hbl
    go_wp2_with fail
    go_ret2
    exact ⟨rfl, HB.out⟩
  · have r1 := Kp.mk (fun w => check_any w ha h1)
    have r2 := Kp.mk (fun w => check_any w hb h2)
    clear h0 h1 h2
    go_enter Try.func28, Try.ntmps28
    go_wp2_with fail
    refine (r1.out _).mono ?_
    rintro e w1 ⟨rfl, hbl⟩
    have HB := Kp.mk hbl
    clear hbl
    go_wp2_with fail
    refine (r2.out _).mono ?_
    rintro e w2 ⟨rfl, hbl⟩
    have HB := Kp.mk (HB.out.trans (hbl.mono HB.out.size))
    clear hbl
    go_wp2_with fail
    go_ret2
    exact ⟨rfl, HB.out⟩
end Go.Proofs.Ytabhfpfnaaihjaa
