/-
  DERIVED. CONTRACTS of package masks: Check, ends, Least, Greatest, Count.
-/
import Derived.Test.YtabhfpfnaaihjaaMkDgN
import Derived.Test.YtabhfpfnaaihjaaMkErrors
import Derived.Laws.Closers25
import Derived.Lib.Bytealg
namespace Go.Proofs.Ytabhfpfnaaihjaa
open Go.RowKit

set_option maxHeartbeats 1000000 in
theorem check_any {s : ByteArray} {c : Int} (w : World) (hsz : s.size ≤ 1000) (hc : checkI s = c) :
    Calls Try.prog 15 #[.string s] w fun e w' => e = .returned (.int .i64 c) ∧ Below w.heap.size w w' := by
  by_cases h18 : 18 < s.size
  · have : c = 3 := by rw [← hc]; unfold checkI; rw [if_pos h18]
    subst this
    clear hc
    go_enter Try.func15, Try.ntmps15
    go_wp2
    go_ret
    exact ⟨rfl, Below.refl _ _⟩
  · unfold checkI at hc
    rw [if_neg h18] at hc
    by_cases h0 : s.size = 0
    · have : c = 5 := by rw [← hc, if_neg]; simp [h0]
      subst this
      obtain rfl : s = ⟨#[]⟩ := by
        cases s with
        | mk d => simp only [ByteArray.mk.injEq]; exact Array.eq_empty_of_size_eq_zero h0
      clear hc h0 hsz h18
      go_enter Try.func15, Try.ntmps15
      go_wp2
      go_ret
      exact ⟨rfl, Below.refl _ _⟩
    · have HC := Kp.mk hc
      clear hc
      have hne : s.toList.isEmpty = false := by
        rw [← decide_eq_emptyBytes s, decide_eq_false_iff_not]; intro e; exact h0 (by rw [e]; rfl)
      go_enter Try.func15, Try.ntmps15
      go_wp2_with fail
      go_loopw [4] (fun _ wr => ∃ m : Nat, m ≤ s.size ∧ Kp (((fwd s).take m).all codeB = true) ∧ wr = w.alloc (.stringIter s m)) (fun _ wr => s.size - wr.iterPos w.heap.size)
      case atStart => exact ⟨0, by omega, Kp.mk (by simp), rfl⟩
      case round =>
        obtain ⟨m, hm, HV, rfl⟩ := hrel
        by_cases hlt : m < s.size
        · have hsn := fwd_snoc hlt
          have hall : ((fwd s).take (m + 1)).all codeB = codeB s[m].toNat := by rw [hsn, List.all_append, HV.out]; simp
          by_cases hb : codeB s[m].toNat = true
          · have HF := Kp.mk (hall.trans hb)
            have hcases := (codeB_iff _).1 hb
            have hnx := fun ty => run_next_ascii (P := Try.prog) w s m ty hlt (by omega)
            simp only [World.iter] at hnx
            clear hall hb hsn
            generalize s[m].toNat = d at *
            rcases hcases with h88 | ⟨h1, h2⟩
            · have e1 : ((d : Int) != 88) = false := by rw [bne_eq_false_iff_eq]; omega
              clear h88
              go_wp2_with fail
              go_roundw
              case rel =>
                first
                  | exact ⟨m + 1, by omega, HF, rfl⟩
                  | ((repeat apply Exists.intro); exact ⟨⟨m + 1, by omega, HF, rfl⟩, rfl⟩)
              case measure => rw [show (w.alloc (.stringIter s (m + 1))).iterPos w.heap.size = m + 1 from World.iterPos_iter w s (m + 1), show (w.alloc (.stringIter s m)).iterPos w.heap.size = m from World.iterPos_iter w s m]; omega
            · have e1 : ((d : Int) != 88) = true := by rw [bne_iff_ne]; omega
              have e2 : decide ((d : Int) < 48) = false := decide_eq_false (by omega)
              have e3 : decide (57 < (d : Int)) = false := decide_eq_false (by omega)
              have h1' : (48 : Int) ≤ (d : Int) := by omega
              have h2' : (d : Int) ≤ 57 := by omega
              clear h1 h2
              go_wp2_with fail
              go_roundw
              case rel =>
                first
                  | exact ⟨m + 1, by omega, HF, rfl⟩
                  | ((repeat apply Exists.intro); exact ⟨⟨m + 1, by omega, HF, rfl⟩, rfl⟩)
              case measure => rw [show (w.alloc (.stringIter s (m + 1))).iterPos w.heap.size = m + 1 from World.iterPos_iter w s (m + 1), show (w.alloc (.stringIter s m)).iterPos w.heap.size = m from World.iterPos_iter w s m]; omega
          · have hfin : c = 5 := by
              have hc := HC.out
              rw [if_neg] at hc
              · exact hc.symm
              · intro hh
                simp only [Bool.and_eq_true, List.all_eq_true] at hh
                have := hh.1 s[m].toNat (by
                  have : s[m].toNat ∈ (fwd s).take (m + 1) := by rw [hsn]; simp
                  exact List.mem_of_mem_take this)
                exact hb this
            subst hfin
            have hrune : ∃ (r p : Nat), (∀ ty, (Instr.next (.pointer (some ⟨w.heap.size, 0, none⟩)) true ty).run Try.prog (w.alloc (.stringIter s m)) = .ok (.tuple #[.bool true, .int .i64 m, .int .i32 r]) (w.alloc (.stringIter s p))) ∧ ¬ r = 88 ∧ (r < 48 ∨ 57 < r) := by
              by_cases ha : s[m].toNat < 128
              · refine ⟨s[m].toNat, m + 1, fun ty => run_next_ascii (P := Try.prog) w s m ty hlt ha, fun e => hb ((codeB_iff _).2 (.inl e)), ?_⟩
                by_cases h : s[m].toNat < 48
                · exact .inl h
                · by_cases g : 57 < s[m].toNat
                  · exact .inr g
                  · exact absurd ((codeB_iff _).2 (.inr ⟨by omega, by omega⟩)) hb
              · have := decode_high s m hlt (by omega)
                exact ⟨_, _, fun ty => run_next_any (P := Try.prog) w s m ty hlt, by omega, by omega⟩
            obtain ⟨r, p, hnx, h88, hor⟩ := hrune
            clear hall hsn hb
            have e1 : ((r : Int) != 88) = true := by rw [bne_iff_ne]; omega
            clear h88
            have hbl : Kp (Below w.heap.size w (w.alloc (.stringIter s p))) := Kp.mk ((Below.refl w.heap.size w).alloc (Nat.le_refl _) _)
            rcases hor with h | h
            · have h' : (r : Int) < 48 := by omega
              clear h
              go_wp2_with fail
              go_ret
              exact ⟨rfl, hbl.out⟩
            · have h' : ¬ (r : Int) < 48 := by omega
              have h'' : 57 < (r : Int) := by omega
              clear h
              go_wp2_with fail
              go_ret
              exact ⟨rfl, hbl.out⟩
        · obtain rfl : m = s.size := by omega
          have hnx := fun ty => run_next_end (P := Try.prog) w s s.size ty (by omega)
          simp only [World.iter] at hnx
          have hfin : c = 0 := by
            have hc := HC.out
            have h1 := HV.out
            rw [fwd_all] at h1
            rw [if_pos (by rw [h1]; simp; omega)] at hc
            exact hc.symm
          subst hfin
          go_wp2_with fail
          go_ret
          exact ⟨rfl, (Below.refl w.heap.size w).alloc (Nat.le_refl _) _⟩
end Go.Proofs.Ytabhfpfnaaihjaa
