/-
  DERIVED. CONTRACTS of the reference of layer 3 (masks): Check; of the statements' own functions: num, bad, gives.
-/
import Derived.Test.YtabhfpfnaaihjaaMkRefB
namespace Go.Proofs.Ytabhfpfnaaihjaa
open Go.RowKit

def codeB (c : Nat) : Bool := c == 88 || (decide (48 ≤ c) && decide (c ≤ 57))
theorem codeB_iff (c : Nat) : codeB c = true ↔ c = 88 ∨ 48 ≤ c ∧ c ≤ 57 := by unfold codeB; simp
/-- the error of a string -/
def checkI (s : ByteArray) : Int := if 18 < s.size then 3 else if (fwd s).all codeB && decide (1 ≤ s.size) then 0 else 5
theorem mk_of_check {s : ByteArray} (h : checkI s = 0) : Mk s := by
  unfold checkI at h
  split at h
  · omega
  · rename_i h1
    split at h
    · rename_i h2
      simp only [Bool.and_eq_true, List.all_eq_true, decide_eq_true_eq] at h2
      exact ⟨h2.2, by omega, fun c hc => (codeB_iff c).1 (h2.1 c (List.mem_reverse.1 hc))⟩
    · omega
theorem check_of_mk {s : ByteArray} (h : Mk s) : checkI s = 0 := by
  unfold checkI
  have := h.most
  rw [if_neg (by omega), if_pos]
  simp only [Bool.and_eq_true, List.all_eq_true, decide_eq_true_eq]
  exact ⟨fun c hc => (codeB_iff c).2 (h.ok c (List.mem_reverse.2 hc)), h.one⟩
set_option maxHeartbeats 1000000 in
theorem refCheck_is {s : ByteArray} {c : Int} (w : World) (hs : s.size ≤ 1000) (hc : checkI s = c) :
    Calls Try.prog 32 #[.string s] w fun e w' => e = .returned (.int .i64 c) ∧ w = w' := by
  by_cases h18 : 18 < s.size
  · have : c = 3 := by rw [← hc]; unfold checkI; rw [if_pos h18]
    subst this
    clear hc
    go_enter Try.func32, Try.ntmps32
    go_wp2
    go_ret
    exact ⟨rfl, rfl⟩
  · unfold checkI at hc
    rw [if_neg h18] at hc
    have HC := Kp.mk hc
    clear hc
    go_enter Try.func32, Try.ntmps32
    go_wp2
    go_loop [3] (fun i => ∃ m : Nat, m ≤ s.size ∧ i = .int .i64 m ∧ Kp (((fwd s).take m).all codeB = true)) (fun i => s.size - (intOf i).toNat)
    case atStart => exact ⟨0, by omega, rfl, Kp.mk (by simp)⟩
    case round =>
      obtain ⟨m, hm, rfl, HV⟩ := hrel
      by_cases hlt : m < s.size
      · have hsn := fwd_snoc hlt
        have hall : ((fwd s).take (m + 1)).all codeB = codeB s[m].toNat := by rw [hsn, List.all_append, HV.out]; simp
        by_cases hb : codeB s[m].toNat = true
        · have HF := Kp.mk (hall.trans hb)
          have hcases := (codeB_iff _).1 hb
          clear hall hb hsn
          rcases hcases with h88 | ⟨h1, h2⟩
          · have e1 : ((s[m].toNat : Int) != 88) = false := by rw [bne_eq_false_iff_eq]; omega
            clear h88
            go_wp2
            go_round
            case rel => exact ⟨m + 1, by omega, by go_num, HF⟩
            case measure => simp [intOf]; omega
          · have e2 : decide ((s[m].toNat : Int) < 48) = false := decide_eq_false (by omega)
            have e3 : decide (57 < (s[m].toNat : Int)) = false := decide_eq_false (by omega)
            by_cases h88 : s[m].toNat = 88
            · omega
            · have e1 : ((s[m].toNat : Int) != 88) = true := by rw [bne_iff_ne]; omega
              have h1' : (48 : Int) ≤ (s[m].toNat : Int) := by omega
              have h2' : (s[m].toNat : Int) ≤ 57 := by omega
              clear h88 h1 h2
              go_wp2
              go_round
              case rel => exact ⟨m + 1, by omega, by go_num, HF⟩
              case measure => simp [intOf]; omega
        · have hfin : c = 5 := by
            have hc := HC.out
            rw [if_neg] at hc
            · exact hc.symm
            · intro hh
              simp only [Bool.and_eq_true, List.all_eq_true] at hh
              have := hh.1 s[m].toNat (by
                have : s[m].toNat ∈ (fwd s).take (m + 1) := by rw [hsn]; simp
                exact List.mem_of_mem_take this)
              exact hb this
          have HF := Kp.mk hfin
          have h88 : ¬ s[m].toNat = 88 := fun e => hb ((codeB_iff _).2 (.inl e))
          have e1 : ((s[m].toNat : Int) != 88) = true := by rw [bne_iff_ne]; omega
          have hor : s[m].toNat < 48 ∨ 57 < s[m].toNat := by
            by_cases h : s[m].toNat < 48
            · exact .inl h
            · by_cases g : 57 < s[m].toNat
              · exact .inr g
              · exact absurd ((codeB_iff _).2 (.inr ⟨by omega, by omega⟩)) hb
          clear hall hsn hb h88 hfin
          rcases hor with h | h
          · have h' : (s[m].toNat : Int) < 48 := by omega
            clear h
            go_wp2
            go_ret
            exact ⟨ret_int HF.out.symm, rfl⟩
          · have h' : 57 < (s[m].toNat : Int) := by omega
            have h2 : ¬ (s[m].toNat : Int) < 48 := by omega
            clear h
            go_wp2
            go_ret
            exact ⟨ret_int HF.out.symm, rfl⟩
      · have hms : m = s.size := by omega
        have hv := HV.out
        rw [hms, fwd_all] at hv
        have hfin : c = if s.size = 0 then 5 else 0 := by
          rw [← HC.out, hv]
          by_cases h0 : s.size = 0
          · rw [h0]; rfl
          · rw [if_neg h0, if_pos (by simp; omega)]
        have HF := Kp.mk hfin
        clear hv hfin
        by_cases h0 : s.size = 0
        · have e1 : ((s.size : Int) == 0) = true := by rw [h0]; rfl
          go_wp2
          go_ret
          exact ⟨ret_int (by rw [HF.out, if_pos h0]), rfl⟩
        · have e1 : ((s.size : Int) == 0) = false := by rw [beq_eq_false_iff_ne]; omega
          go_wp2
          go_ret
          exact ⟨ret_int (by rw [HF.out, if_neg h0]), rfl⟩
def numB (n e want : Int) : Bool := n == want && e == 0
def badB (n e want : Int) : Bool := n == 0 && e == want
def givesB (n e want : Int) (there : Bool) (bad : Int) : Bool := if there then n == want && e == 0 else n == 0 && e == bad
theorem num_is {n e want : Int} {b : Bool} (w : World) (h : numB n e want = b) :
    Calls Try.prog 13 #[.int .i64 n, .int .i64 e, .int .i64 want] w fun x w' => x = .returned (.bool b) ∧ w = w' := by
  unfold numB at h
  cases g : (n == want)
  all_goals
    rw [g] at h
    have H := Kp.mk h; clear h
    go_enter Try.func13, Try.ntmps13
    go_wp2
    go_ret
    exact ⟨ret_bool H.out, rfl⟩
theorem bad_is {n e want : Int} {b : Bool} (w : World) (h : badB n e want = b) :
    Calls Try.prog 17 #[.int .i64 n, .int .i64 e, .int .i64 want] w fun x w' => x = .returned (.bool b) ∧ w = w' := by
  unfold badB at h
  cases g : (n == 0)
  all_goals
    rw [g] at h
    have H := Kp.mk h; clear h
    go_enter Try.func17, Try.ntmps17
    go_wp2
    go_ret
    exact ⟨ret_bool H.out, rfl⟩
theorem gives_is {n e want bad : Int} {there b : Bool} (w : World) (h : givesB n e want there bad = b) :
    Calls Try.prog 21 #[.int .i64 n, .int .i64 e, .int .i64 want, .bool there, .int .i64 bad] w fun x w' => x = .returned (.bool b) ∧ w = w' := by
  unfold givesB at h
  cases there
  · cases g : (n == 0)
    all_goals
      rw [g] at h
      have H := Kp.mk h; clear h
      go_enter Try.func21, Try.ntmps21
      go_wp2
      go_ret
      exact ⟨ret_bool H.out, rfl⟩
  · cases g : (n == want)
    all_goals
      rw [g] at h
      have H := Kp.mk h; clear h
      go_enter Try.func21, Try.ntmps21
      go_wp2
      go_ret
      exact ⟨ret_bool H.out, rfl⟩
end Go.Proofs.Ytabhfpfnaaihjaa
