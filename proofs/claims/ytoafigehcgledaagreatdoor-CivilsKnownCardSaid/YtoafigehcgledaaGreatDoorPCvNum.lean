/-
  DERIVED. CONTRACTS of package civils: throw, number (with their panics). (mathematics and the short ways; the others: XCvNumW)
-/
import Derived.Test.YtoafigehcgledaaGreatDoorPCvText
import Derived.Recover
namespace Go.Proofs.YtoafigehcgledaaGreatDoor
open Go.RowKit
set_option maxRecDepth 100000

/-- a panic with an error -/
abbrev pan (e : Int) : Ending := .panicked [{ v := .iface 24 (.int .i64 e), recovered := false }]
theorem throw_no (w : World) : Calls Tryz.prog 53 #[.int .i64 0] w fun e w' => e = .returned (.tuple #[]) ∧ w = w' := by
  go_enter Tryz.func53, Tryz.ntmps53
  go_wp2_with fail
  go_end0
  exact ⟨rfl, rfl⟩
theorem throw_is {c : Int} (h : ¬ c = 0) (w : World) : Calls Tryz.prog 53 #[.int .i64 c] w fun e w' => e = pan c ∧ w = w' := by
  have t : (c != 0) = true := by rw [bne_iff_ne]; exact h
  clear h
  go_enter Tryz.func53, Tryz.ntmps53
  go_wp2_with fail
  exact ⟨rfl, rfl, rfl⟩
/-- digits without the zeros ahead of the last one of k places -/
def stripZ (k : Nat) (dg : List UInt8) : List UInt8 := if dg.length = k then (dg.take (k - 1)).dropWhile (· == 48) ++ dg.drop (k - 1) else dg
theorem drop_zero (l : List UInt8) : l.dropWhile (· == 48) = [] ∨ ∃ c r, l.dropWhile (· == 48) = c :: r ∧ ¬ c.toNat = 48 := by
  induction l with
  | nil => exact .inl rfl
  | cons c r ih =>
    rw [List.dropWhile_cons]
    by_cases h : c = 48
    · rw [if_pos (by simpa using h)]; exact ih
    · rw [if_neg (by simpa using h)]; exact .inr ⟨c, r, rfl, fun e => h (UInt8.toNat_inj.1 (by simpa using e))⟩
theorem drop_val (l t : List UInt8) : valM 0 (l.dropWhile (· == 48) ++ t) = valM 0 (l ++ t) := by
  induction l with
  | nil => rfl
  | cons c r ih =>
    rw [List.dropWhile_cons]
    by_cases h : c = 48
    · rw [if_pos (by simpa using h), ih, h]; rfl
    · rw [if_neg (by simpa using h)]
theorem drop_dig {l : List UInt8} (h : ∀ x ∈ l, dig x) : ∀ x ∈ l.dropWhile (· == 48), dig x := fun x hx => h x ((List.dropWhile_sublist _).subset hx)
theorem strz_dig {k : Nat} {dg : List UInt8} (h : ∀ x ∈ dg, dig x) : ∀ x ∈ stripZ k dg, dig x := by
  unfold stripZ
  split
  · intro x hx
    rw [List.mem_append] at hx
    rcases hx with hx | hx
    · exact drop_dig (fun y hy => h y (List.mem_of_mem_take hy)) x hx
    · exact h x (List.mem_of_mem_drop hx)
  · exact h
theorem strz_val (k : Nat) (dg : List UInt8) : valM 0 (stripZ k dg) = valM 0 dg := by
  unfold stripZ
  split
  · rw [drop_val, List.take_append_drop]
  · rfl
theorem strz_len (k : Nat) (dg : List UInt8) : (stripZ k dg).length ≤ dg.length := by
  unfold stripZ
  split
  · rw [List.length_append]
    have h1 := (List.dropWhile_sublist (· == (48 : UInt8)) (l := dg.take (k - 1))).length_le
    have h2 : (dg.take (k - 1)).length + (dg.drop (k - 1)).length = dg.length := by rw [← List.length_append, List.take_append_drop]
    omega
  · omega
theorem minus_dig (h : dig 45) : False := by unfold dig at h; revert h; decide
/-- which texts are the texts of numbers -/
theorem strz_form {k : Nat} {sg dg : List UInt8} (hk : 1 ≤ k) (hl : k ≤ dg.length) (hd : ∀ x ∈ dg, dig x) (hs : sg = [] ∨ sg = [45]) :
    Form (sg ++ stripZ k dg) ↔ (k < dg.length → ¬ dg.getD 0 0 = 48) ∧ ¬ (sg = [45] ∧ stripZ k dg = [48]) := by
  have hsd := strz_dig (k := k) hd
  have form_of : ∀ c r, ¬ c.toNat = 48 → stripZ k dg = c :: r → Form (sg ++ stripZ k dg) := by
    intro c r hc e
    rw [e] at hsd ⊢
    rcases hs with e1 | e1
    · exact .inr ⟨c, r, .inl (by rw [e1]; rfl), hc, hsd⟩
    · exact .inr ⟨c, r, .inr (by rw [e1]; rfl), hc, hsd⟩
  have not_zero : ∀ r, ¬ r = [] → stripZ k dg = 48 :: r → ¬ Form (sg ++ stripZ k dg) := by
    intro r hr e hF
    rw [e] at hF
    rcases hF with g | ⟨c, r', g, hc, hdc⟩
    · rcases hs with e1 | e1 <;> rw [e1] at g <;> simp at g
      exact hr g
    · have hcd := hdc c (by simp)
      rcases hs with e1 | e1 <;> rw [e1] at g <;> rcases g with g | g <;> simp at g
      · exact hc (by rw [← g.1]; rfl)
      · exact minus_dig (by rw [g.1]; exact hcd)
      · exact hc (by rw [← g.1]; rfl)
  by_cases e : dg.length = k
  · have hz : stripZ k dg = (dg.take (k - 1)).dropWhile (· == 48) ++ dg.drop (k - 1) := by unfold stripZ; rw [if_pos e]
    obtain ⟨x, hx⟩ : ∃ x, dg.drop (k - 1) = [x] := by
      have : (dg.drop (k - 1)).length = 1 := by rw [List.length_drop]; omega
      match dg.drop (k - 1), this with
      | [x], _ => exact ⟨x, rfl⟩
    rw [hx] at hz
    rcases drop_zero (dg.take (k - 1)) with h | ⟨c, r, h, hc⟩
    · rw [h, List.nil_append] at hz
      by_cases h48 : x = 48
      · subst h48
        constructor
        · intro hF
          refine ⟨fun g => by omega, fun g => ?_⟩
          rw [g.1, g.2] at hF
          rcases hF with q | ⟨c, r, q, hc, hdc⟩
          · simp at q
          · have hcd := hdc c (by simp)
            rcases q with q | q
            · simp at q; exact minus_dig (by rw [q.1]; exact hcd)
            · simp at q; exact hc (by rw [← q.1]; rfl)
        · intro hR
          have h1 : ¬ sg = [45] := fun g => hR.2 ⟨g, hz⟩
          rcases hs with e1 | e1
          · rw [e1, hz]; exact .inl rfl
          · exact absurd e1 h1
      · have hx2 : ¬ x.toNat = 48 := fun q => h48 (UInt8.toNat_inj.1 (by simpa using q))
        constructor
        · intro _
          exact ⟨fun g => by omega, fun g => h48 (by rw [hz] at g; simpa using g.2)⟩
        · intro _; exact form_of x [] hx2 hz
    · rw [h] at hz
      constructor
      · intro _
        exact ⟨fun g => by omega, fun g => by rw [hz] at g; simp at g⟩
      · intro _; exact form_of c (r ++ [x]) hc hz
  · have hz : stripZ k dg = dg := by unfold stripZ; rw [if_neg e]
    match dg, hl, e, hz with
    | [], hl, e, _ => simp at hl; omega
    | c :: r, hl, e, hz =>
      rw [List.length_cons] at e hl
      have hr : ¬ r = [] := fun q => by rw [q] at e hl; simp at e hl; omega
      by_cases h48 : c = 48
      · subst h48
        constructor
        · intro hF; exact absurd hF (not_zero r hr hz)
        · intro hR; exact absurd rfl (hR.1 (by rw [List.length_cons]; omega))
      · have hc : ¬ c.toNat = 48 := fun q => h48 (UInt8.toNat_inj.1 (by simpa using q))
        constructor
        · intro _
          exact ⟨fun _ => by simpa using h48, fun g => by rw [hz] at g; simp at g; exact h48 g.2.1⟩
        · intro _; exact form_of c r hc hz
theorem strz_text {k : Nat} {sg dg : List UInt8} (hd : ∀ x ∈ dg, dig x) (hs : sg = [] ∨ sg = [45]) :
    textVal (sg ++ stripZ k dg) = if sg = [45] then -(valM 0 dg : Int) else valM 0 dg := by
  rcases hs with e | e
  · rw [e, if_neg (by decide), List.nil_append, ← strz_val k dg]
    have hsd := strz_dig (k := k) hd
    match stripZ k dg, hsd with
    | [], _ => rfl
    | c :: r, hsd => exact textVal_plain c r (fun q => by have := hsd c (by simp); unfold dig at this; omega)
  · rw [e, if_pos rfl, ← strz_val k dg]; exact textVal_minus _
theorem dTrim {l t : List UInt8} (h : Lib.trimS l cs10 = t) (hl : l.length ≤ 1000) (w : World) :
    Calls Tryz.prog 79 #[.string (bs l), .string ⟨#[48, 49, 50, 51, 52, 53, 54, 55, 56, 57]⟩] w fun e w' => e = .returned (.string (bs t)) ∧ Below w.heap.size w w' :=
  I1.trim_is h w (by omega)
theorem dTrimL {l t : List UInt8} (h : l.dropWhile (· == 48) = t) (w : World) :
    Calls Tryz.prog 80 #[.string (bs l), .string ⟨#[48]⟩] w fun e w' => e = .returned (.string (bs t)) ∧ w' = w := by
  have := Tryz.strings_TrimLeft_one (bs l) 48 (by decide) w
  rw [bs_toList, show Lib.trimLeftB l 48 = t from h] at this
  exact this
theorem dParse_no {l : List UInt8} (hl : l.length ≤ 1000) (h : ¬ Form l) (w : World) :
    Calls Tryz.prog 81 #[.string (bs l)] w fun e w' => e = .returned (.tuple #[.int .i64 0, .int .i64 5]) ∧ Below w.heap.size w w' :=
  I1.parse_no' (bs l) w (by rw [bs_size]; omega) (by rw [bs_toList]; exact h)
theorem dParse_in {l : List UInt8} {v : Int} (hl : l.length ≤ 1000) (h : Form l) (hv : textVal l = v) (h0 : -9223372036854775808 ≤ v) (h1 : v ≤ 9223372036854775807) (w : World) :
    Calls Tryz.prog 81 #[.string (bs l)] w fun e w' => e = .returned (.tuple #[.int .i64 v, .int .i64 0]) ∧ Below w.heap.size w w' := by
  have := I1.parse_in (bs l) w (by rw [bs_size]; omega) (by rw [bs_toList]; exact h) (by rw [bs_toList, hv]; exact h0) (by rw [bs_toList, hv]; exact h1)
  rw [bs_toList, hv] at this
  exact this
theorem dParse_out {l : List UInt8} (hl : l.length ≤ 1000) (h : Form l) (hv : ¬ (-9223372036854775808 ≤ textVal l ∧ textVal l ≤ 9223372036854775807)) (w : World) (hL : I1.Laid w) :
    Calls Tryz.prog 81 #[.string (bs l)] w fun e w' => e = .returned (.tuple #[.int .i64 0, .int .i64 15]) ∧ Below w.heap.size w w' :=
  I1.parse_out (bs l) w hL (by rw [bs_size]; omega) (by rw [bs_toList]; exact h) (by rw [bs_toList]; exact hv)
set_option maxHeartbeats 1000000 in
theorem num_short {k : Nat} {sg dg : List UInt8} (h : dg.length < k) (w : World) :
    Calls Tryz.prog 51 #[.string (bs sg), .string (bs dg), .int .i64 (k : Int)] w fun e w' => e = pan 5 ∧ Below w.heap.size w w' := by
  have h1 : ((bs dg).size : Int) < (k : Int) := by rw [bs_size]; omega
  have r1 := Kp.mk (fun w => throw_is (c := 5) (by decide) w)
  clear h
  go_enter Tryz.func51, Tryz.ntmps51
  go_wp2_with fail
  refine (r1.out _).mono ?_
  rintro e w' ⟨rfl, rfl⟩
  go_wp2_with fail
  exact ⟨rfl, rfl, Below.refl _ _⟩
set_option maxHeartbeats 1000000 in
theorem num_other {k : Nat} {sg dg : List UInt8} (h : k ≤ dg.length) (hl : dg.length ≤ 1000) (hd : ¬ ∀ x ∈ dg, dig x) (w : World) :
    Calls Tryz.prog 51 #[.string (bs sg), .string (bs dg), .int .i64 (k : Int)] w fun e w' => e = pan 5 ∧ Below w.heap.size w w' := by
  have h1 : ¬ ((bs dg).size : Int) < (k : Int) := by rw [bs_size]; omega
  obtain ⟨t, ht⟩ : ∃ t, Lib.trimS dg cs10 = t := ⟨_, rfl⟩
  have htn : ¬ t = [] := fun e => hd ((trimS_nil dg).1 (by rw [ht, e]; rfl))
  have r0 := Kp.mk (fun w => dTrim ht hl w)
  have r1 := Kp.mk (fun w => throw_is (c := 5) (by decide) w)
  have tz : (!(bs t).toList.isEmpty) = true := by rw [ByteArray.toList_eq, bs_toList]; simpa using htn
  clear h hl hd ht htn
  go_enter Tryz.func51, Tryz.ntmps51
  go_wp2_with fail
  refine (r0.out _).mono ?_
  rintro e w1 ⟨rfl, hb⟩
  have HB := Kp.mk hb
  clear hb
  go_wp2_with fail
  refine (r1.out _).mono ?_
  rintro e w' ⟨rfl, rfl⟩
  go_wp2_with fail
  exact ⟨rfl, rfl, HB.out⟩
end Go.Proofs.YtoafigehcgledaaGreatDoor
