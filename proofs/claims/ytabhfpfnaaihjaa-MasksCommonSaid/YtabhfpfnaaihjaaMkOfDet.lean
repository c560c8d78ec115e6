/-
  DERIVED. CONTRACT of (M).Of with its answer as a function of the bytes alone (for a region that draws the order of two of them).
-/
import Derived.Test.YtabhfpfnaaihjaaMkOfAny
namespace Go.Proofs.Ytabhfpfnaaihjaa
open Go.RowKit

/-- the first m places -/
def cat (z : Nat → Int) : Nat → ByteArray
  | 0 => ⟨#[]⟩
  | m + 1 => cat z m ++ digs.extract (z m % 12).toNat ((z m % 12).toNat + 1)
theorem cat_ok (z : Nat → Int) : ∀ m, (cat z m).size = m ∧ (fwd (cat z m)).all codeB = true
  | 0 => ⟨rfl, rfl⟩
  | m + 1 => by
    obtain ⟨h1, h2⟩ := cat_ok z m
    have hp := digs_part ⟨(z m % 12).toNat, by omega⟩
    simp only at hp
    rw [cat, ByteArray.size_append, fwd_append, List.all_append, h1, h2, hp.1, hp.2]
    exact ⟨rfl, rfl⟩
/-- the mask of some bytes -/
def ofS (len : Nat) (z : Nat → Int) : ByteArray := if len = 0 then ⟨#[88]⟩ else cat z (min len 18)
theorem mk_ofS (len : Nat) (z : Nat → Int) : Mk (ofS len z) := by
  unfold ofS
  split
  · exact mk_x
  · obtain ⟨h1, h2⟩ := cat_ok z (min len 18)
    exact mk_of_parts (by omega) (by omega) h2
theorem ret_s {a b : ByteArray} (h : a = b) : Ending.returned (.string a) = .returned (.string b) := by rw [h]
set_option maxRecDepth 100000 in
set_option maxHeartbeats 1000000 in
theorem ofD_some {b off len cap : Nat} {z : Nat → Int} (w : World) (hl : (len : Int) ≤ 9223372036854775807) (h1 : 0 < len) (hb : b < w.heap.size) (hz : ∀ k, k < len → w.cell? ⟨b, off + k, none⟩ = some (.int .u8 (z k)) ∧ 0 ≤ z k ∧ z k < 256) :
    Calls Try.prog 8 #[.agg #[.slice (some ⟨b, off, none⟩) len cap]] w fun e w' => e = .returned (.string (ofS len z)) ∧ Below w.heap.size w w' := by
  have HZ := Kp.mk hz
  have HL := Kp.mk hl
  have HB := Kp.mk hb
  clear hz hl hb
  go_enter Try.func8, Try.ntmps8
  go_wp2_with fail
  go_loopw [3, 4] (fun o i wr => ∃ (m : Nat), o = .string (cat z m) ∧ i = .int .i64 m ∧ Kp (m ≤ 18 ∧ m ≤ len ∧ Below (w.heap.size + 1) (w.alloc (.cells #[.slice (some ⟨b, off, none⟩) len cap] 24)) wr)) (fun _ i _ => 18 - (intOf i).toNat)
  case atStart => exact ⟨0, rfl, rfl, Kp.mk ⟨by omega, by omega, Below.refl _ _⟩⟩
  case round =>
    obtain ⟨m, rfl, rfl, HV⟩ := hrel
    have hsz := (cat_ok z m).1
    have r0 : wr.cell? ⟨w.heap.size, 0, none⟩ = some (.slice (some ⟨b, off, none⟩) len cap) := by
      rw [HV.out.2.2.cell (p := ⟨w.heap.size, 0, none⟩) (by simp)]; simp [go_sem]
    by_cases hlt : m < len
    · by_cases h18 : m < 18
      · obtain ⟨hz1, hz2, hz3⟩ := HZ.out m hlt
        have c1 : wr.cell? ⟨b, off + m, none⟩ = some (.int .u8 (z m)) := by
          rw [HV.out.2.2.cell (p := ⟨b, off + m, none⟩) (by have := HB.out; show b < w.heap.size + 1; omega), World.cell?_alloc_past _ b (off + m) HB.out]; exact hz1
        obtain ⟨d, hd⟩ : ∃ d : Nat, z m % 12 = (d : Int) := ⟨(z m % 12).toNat, by omega⟩
        have hd12 : (d : Int) < 12 := by omega
        have m1 : (z m).tmod 12 = (d : Int) := by rw [Int.tmod_eq_emod_of_nonneg hz2]; exact hd
        have m2 : IntKind.u8.wrap (d : Int) = (d : Int) := IntWalk.u8_in _ (by omega)
        have m3 : IntKind.u8.wrap ((d : Int) + 1) = ((d + 1 : Nat) : Int) := by rw [IntWalk.u8_in _ (by omega)]; omega
        have b1 : (m : Int) < (len : Int) := by omega
        have b2 : (d : Int) ≤ ((d + 1 : Nat) : Int) := by omega
        have b3 : ((d + 1 : Nat) : Int) ≤ 12 := by omega
        have hcat : cat z (m + 1) = cat z m ++ digs.extract d (d + 1) := by
          rw [cat, show (z m % 12).toNat = d by omega]
        generalize cat z m = s at *
        generalize z m = y at *
        have hs := slice_digs d (by omega)
        have hp := (digs_part ⟨d, by omega⟩).1
        simp only at hp
        generalize digs.extract d (d + 1) = x at *
        have hadd : ∀ w, (Op.stringOp .add s x).run Try.prog w = .ok (.string (s ++ x)) w := fun w => run_string_add_sum w s x (by have := HV.out.1; omega)
        have HP := Kp.mk hcat
        clear hz1 hz2 hz3 hp hcat hsz
        go_wp2_with fail
        go_quiet (fail)
        go_wp2_with fail
        go_roundw
        case rel =>
          obtain ⟨v1, v2, v5⟩ := HV.out
          exact ⟨m + 1, by rw [HP.out], by go_num, Kp.mk ⟨by omega, by omega, below_drewN v5 _⟩⟩
        case measure => simp [intOf]; omega
      · have e1 : decide ((m : Int) < 18) = false := decide_eq_false (by omega)
        have b1 : (m : Int) < (len : Int) := by omega
        have hm : m = 18 := by have := HV.out.1; omega
        have hne : (cat z m).toList.isEmpty = false := by rw [empty_size, hsz]; exact decide_eq_false (by omega)
        have HS := Kp.mk (show cat z m = ofS len z by unfold ofS; rw [if_neg (by omega), show min len 18 = m by omega])
        generalize cat z m = s at *
        have HBl := Kp.mk (((Below.refl w.heap.size w).alloc (Nat.le_refl _) _).trans (HV.out.2.2.mono (by simp)))
        go_wp2_with fail
        go_ret
        exact ⟨ret_s HS.out, HBl.out⟩
    · have hm : m = len := by have := HV.out.2.1; omega
      have b1 : ¬ (m : Int) < (len : Int) := by omega
      have HBl := Kp.mk (((Below.refl w.heap.size w).alloc (Nat.le_refl _) _).trans (HV.out.2.2.mono (by simp)))
      have hne : (cat z m).toList.isEmpty = false := by rw [empty_size, hsz]; exact decide_eq_false (by omega)
      have hl18 := HV.out.1
      have HS := Kp.mk (show cat z m = ofS len z by unfold ofS; rw [if_neg (by omega), show min len 18 = m by omega])
      generalize cat z m = s at *
      go_wp2_with fail
      go_ret
      exact ⟨ret_s HS.out, HBl.out⟩
set_option maxRecDepth 100000 in
theorem ofD_none {p : Option Addr} {cap : Nat} {z : Nat → Int} (w : World) :
    Calls Try.prog 8 #[.agg #[.slice p 0 cap]] w fun e w' => e = .returned (.string (ofS 0 z)) ∧ Below w.heap.size w w' := by
  show Calls Try.prog 8 #[.agg #[.slice p 0 cap]] w fun e w' => e = .returned (.string ⟨#[88]⟩) ∧ Below w.heap.size w w'
  go_enter Try.func8, Try.ntmps8
  go_wp2_with fail
  go_loopw [3, 4] (fun o i wr => o = .string ⟨#[]⟩ ∧ i = .int .i64 0 ∧ Kp (Below (w.heap.size + 1) (w.alloc (.cells #[.slice p 0 cap] 24)) wr)) (fun _ i _ => 18 - (intOf i).toNat)
  case atStart => exact ⟨rfl, rfl, Kp.mk (Below.refl _ _)⟩
  case round =>
    obtain ⟨rfl, rfl, HV⟩ := hrel
    have r0 : wr.cell? ⟨w.heap.size, 0, none⟩ = some (.slice p 0 cap) := by
      rw [HV.out.cell (p := ⟨w.heap.size, 0, none⟩) (by simp)]; simp [go_sem]
    have HBl := Kp.mk (((Below.refl w.heap.size w).alloc (Nat.le_refl _) _).trans (HV.out.mono (by simp)))
    go_wp2_with fail
    go_ret
    exact ⟨rfl, HBl.out⟩
/-- every mask as plain data gives its mask; the memory that was there stays -/
theorem of_is {p : Option Addr} {len cap : Nat} {z : Nat → Int} (w : World) (hl : (len : Int) ≤ 9223372036854775807) (hr : RowU8 w p len z) :
    Calls Try.prog 8 #[.agg #[.slice p len cap]] w fun e w' => e = .returned (.string (ofS len z)) ∧ Below w.heap.size w w' := by
  by_cases h0 : len = 0
  · subst h0; exact ofD_none w
  · rcases hr with rfl | ⟨b, off, rfl, hb, hz⟩
    · exact absurd rfl h0
    · exact ofD_some w hl (by omega) hb hz
end Go.Proofs.Ytabhfpfnaaihjaa
