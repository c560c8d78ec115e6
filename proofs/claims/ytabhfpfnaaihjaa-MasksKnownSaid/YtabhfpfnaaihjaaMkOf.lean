/-
  DERIVED. CONTRACT of (M).Of: a mask as plain data gives a mask.
-/
import Derived.Test.YtabhfpfnaaihjaaMkRefC
import Derived.BigQuiet
import Derived.Laws.Closers25
import Derived.Deep.QuietTactic
namespace Go.Proofs.Ytabhfpfnaaihjaa
open Go.RowKit

/-- a row of bytes that came in -/
def RowU8 (w : World) (p : Option Addr) (len : Nat) (z : Nat → Int) : Prop :=
  len = 0 ∨ ∃ b off, p = some ⟨b, off, none⟩ ∧ b < w.heap.size ∧ ∀ k, k < len → w.cell? ⟨b, off + k, none⟩ = some (.int .u8 (z k)) ∧ 0 ≤ z k ∧ z k < 256
def digs : ByteArray := ⟨#[48, 49, 50, 51, 52, 53, 54, 55, 56, 57, 88, 88]⟩
theorem digs_part : ∀ d : Fin 12, (digs.extract d.val (d.val + 1)).size = 1 ∧ (fwd (digs.extract d.val (d.val + 1))).all codeB = true := by decide
theorem fwd_append (a b : ByteArray) : fwd (a ++ b) = fwd a ++ fwd b := by
  unfold fwd
  rw [ByteArray.data_append, Array.toList_append, List.map_append]
theorem slice_digs (d : Nat) (hd : d < 12) (w : World) : (Instr.slice 9 (.string ⟨#[48, 49, 50, 51, 52, 53, 54, 55, 56, 57, 88, 88]⟩) (some (.int .u8 (d : Int))) (some (.int .u8 ((d : Int) + 1))) none).run Try.prog w = .ok (.string (digs.extract d (d + 1))) w := by
  have h := run_slice_string (P := Try.prog) (w := w) 9 digs .u8 .u8 (d : Int) ((d : Int) + 1) Try.underlying9 (by omega) (by omega) (by show _ ≤ ((12 : Nat) : Int); omega)
  rw [show ((d : Int) + 1).toNat = d + 1 by omega, show ((d : Int)).toNat = d by omega] at h
  exact h
theorem empty_size {s : ByteArray} : s.toList.isEmpty = decide (s.size = 0) := by
  rw [← decide_eq_emptyBytes s]
  apply decide_eq_decide.2
  constructor
  · rintro rfl; rfl
  · intro h
    apply ByteArray.ext
    exact Array.eq_empty_of_size_eq_zero h
theorem mk_x : Mk ⟨#[88]⟩ := mk_of_check (by decide)
theorem mk_of_parts {s : ByteArray} (h1 : 1 ≤ s.size) (h2 : s.size ≤ 18) (h3 : (fwd s).all codeB = true) : Mk s := by
  refine mk_of_check ?_
  unfold checkI
  rw [if_neg (by omega), if_pos]
  rw [h3, decide_eq_true h1]; rfl
set_option maxRecDepth 100000 in
set_option maxHeartbeats 1000000 in
theorem of_some {b off len cap : Nat} {z : Nat → Int} (w : World) (hl : (len : Int) ≤ 9223372036854775807) (hb : b < w.heap.size) (hz : ∀ k, k < len → w.cell? ⟨b, off + k, none⟩ = some (.int .u8 (z k)) ∧ 0 ≤ z k ∧ z k < 256) :
    Calls Try.prog 8 #[.agg #[.slice (some ⟨b, off, none⟩) len cap]] w fun e w' => ∃ s, Mk s ∧ e = .returned (.string s) ∧ Below w.heap.size w w' := by
  have HZ := Kp.mk hz
  have HL := Kp.mk hl
  have HB := Kp.mk hb
  clear hz hl hb
  go_enter Try.func8, Try.ntmps8
  go_wp2_with fail
  go_loopw [3, 4] (fun o i wr => ∃ (s : ByteArray) (m : Nat), o = .string s ∧ i = .int .i64 m ∧ Kp (m ≤ 18 ∧ m ≤ len ∧ s.size = m ∧ (fwd s).all codeB = true ∧ Below (w.heap.size + 1) (w.alloc (.cells #[.slice (some ⟨b, off, none⟩) len cap] 24)) wr)) (fun _ i _ => 18 - (intOf i).toNat)
  case atStart => exact ⟨⟨#[]⟩, 0, rfl, rfl, Kp.mk ⟨by omega, by omega, rfl, rfl, Below.refl _ _⟩⟩
  case round =>
    obtain ⟨s, m, rfl, rfl, HV⟩ := hrel
    have r0 : wr.cell? ⟨w.heap.size, 0, none⟩ = some (.slice (some ⟨b, off, none⟩) len cap) := by
      rw [HV.out.2.2.2.2.cell (p := ⟨w.heap.size, 0, none⟩) (by simp)]; simp [go_sem]
    by_cases hlt : m < len
    · by_cases h18 : m < 18
      · obtain ⟨hz1, hz2, hz3⟩ := HZ.out m hlt
        have c1 : wr.cell? ⟨b, off + m, none⟩ = some (.int .u8 (z m)) := by
          rw [HV.out.2.2.2.2.cell (p := ⟨b, off + m, none⟩) (by have := HB.out; show b < w.heap.size + 1; omega), World.cell?_alloc_past _ b (off + m) HB.out]; exact hz1
        obtain ⟨d, hd⟩ : ∃ d : Nat, z m % 12 = (d : Int) := ⟨(z m % 12).toNat, by omega⟩
        have hd12 : (d : Int) < 12 := by omega
        have m1 : (z m).tmod 12 = (d : Int) := by rw [Int.tmod_eq_emod_of_nonneg hz2]; exact hd
        have m2 : IntKind.u8.wrap (d : Int) = (d : Int) := IntWalk.u8_in _ (by omega)
        have m3 : IntKind.u8.wrap ((d : Int) + 1) = ((d + 1 : Nat) : Int) := by rw [IntWalk.u8_in _ (by omega)]; omega
        have b1 : (m : Int) < (len : Int) := by omega
        have b2 : (d : Int) ≤ ((d + 1 : Nat) : Int) := by omega
        have b3 : ((d + 1 : Nat) : Int) ≤ 12 := by omega
        generalize z m = y at *
        have hs := slice_digs d (by omega)
        have hp := digs_part ⟨d, by omega⟩
        simp only at hp
        generalize digs.extract d (d + 1) = x at *
        have hadd : ∀ w, (Op.stringOp .add s x).run Try.prog w = .ok (.string (s ++ x)) w := fun w => run_string_add_sum w s x (by have := HV.out; omega)
        have HP := Kp.mk hp
        clear hz1 hz2 hz3 hp
        go_wp2_with fail
        go_quiet (fail)
        go_wp2_with fail
        go_roundw
        case rel =>
          obtain ⟨v1, v2, v3, v4, v5⟩ := HV.out
          exact ⟨s ++ x, m + 1, rfl, by go_num, Kp.mk ⟨by omega, by omega, by rw [ByteArray.size_append, v3, HP.out.1], by rw [fwd_append, List.all_append, v4, HP.out.2]; rfl, below_drewN v5 _⟩⟩
        case measure => simp [intOf]; omega
      · have e1 : decide ((m : Int) < 18) = false := decide_eq_false (by omega)
        have b1 : (m : Int) < (len : Int) := by omega
        have hm : m = 18 := by have := HV.out.1; omega
        have hne : s.toList.isEmpty = false := by rw [empty_size, HV.out.2.2.1]; exact decide_eq_false (by omega)
        have HS := Kp.mk (mk_of_parts (s := s) (by have := HV.out.2.2.1; omega) (by have := HV.out.2.2.1; omega) HV.out.2.2.2.1)
        have HBl := Kp.mk (((Below.refl w.heap.size w).alloc (Nat.le_refl _) _).trans (HV.out.2.2.2.2.mono (by simp)))
        go_wp2_with fail
        go_ret
        exact ⟨s, HS.out, rfl, HBl.out⟩
    · have hm : m = len := by have := HV.out.2.1; omega
      have b1 : ¬ (m : Int) < (len : Int) := by omega
      have HBl := Kp.mk (((Below.refl w.heap.size w).alloc (Nat.le_refl _) _).trans (HV.out.2.2.2.2.mono (by simp)))
      by_cases h0 : s.size = 0
      · have hne : s.toList.isEmpty = true := by rw [empty_size]; exact decide_eq_true h0
        go_wp2_with fail
        go_ret
        exact ⟨_, mk_x, rfl, HBl.out⟩
      · have hne : s.toList.isEmpty = false := by rw [empty_size]; exact decide_eq_false h0
        have HS := Kp.mk (mk_of_parts (s := s) (by omega) (by have := HV.out; omega) HV.out.2.2.2.1)
        go_wp2_with fail
        go_ret
        exact ⟨s, HS.out, rfl, HBl.out⟩
end Go.Proofs.Ytabhfpfnaaihjaa
