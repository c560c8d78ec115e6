/-
  DERIVED. CONTRACTS of the reference of layer 6 (civils): two, digits, Text.
-/
import Derived.Test.YtoafigehcgledaaGreatDoorCvRefs
import Derived.Test.YtoafigehcgledaaGreatDoorCvTxt
import Derived.Test.YtoafigehcgledaaGreatDoorR1RefText
import Derived.Deep.RegionHeld3
namespace Go.Proofs.YtoafigehcgledaaGreatDoor
open Go.RowKit

/-- a string of these bytes -/
def bs (l : List UInt8) : ByteArray := ⟨l.toArray⟩
theorem bs_size (l : List UInt8) : (bs l).size = l.length := by show l.toArray.size = _; simp
theorem bs_app (a b : List UInt8) : bs a ++ bs b = bs (a ++ b) := by
  apply ByteArray.ext
  rw [ByteArray.data_append]
  show a.toArray ++ b.toArray = (a ++ b).toArray
  simp
theorem bs_list (s : ByteArray) : bs s.data.toList = s := by unfold bs; simp
theorem bs_inj {a b : List UInt8} : bs a = bs b ↔ a = b := by
  constructor
  · intro h
    have := congrArg (fun s : ByteArray => s.data.toList) h
    simpa [bs] using this
  · intro h; rw [h]
theorem add_bs {a b : List UInt8} (h : a.length + b.length ≤ 1000) (w : World) : (Op.stringOp .add (bs a) (bs b)).run Tryz.prog w = .ok (.string (bs (a ++ b))) w := by
  have := run_string_add_sum (P := Tryz.prog) w (bs a) (bs b) (by rw [bs_size, bs_size]; omega)
  rw [bs_app] at this
  exact this
theorem two_is {n : Int} (h0 : 0 ≤ n) (h1 : n ≤ 99) (w : World) :
    Calls Tryz.prog 56 #[.int .i64 n] w fun e w' => e = .returned (.string (bs (fx 2 n.toNat))) ∧ Below w.heap.size w w' := by
  obtain ⟨a, ha⟩ : ∃ a, n.toNat / 10 = a := ⟨_, rfl⟩
  obtain ⟨b, hb⟩ : ∃ b, n.toNat % 10 = b := ⟨_, rfl⟩
  have e1 : Int.tdiv n 10 = (a : Int) := by rw [Int.tdiv_eq_ediv_of_nonneg h0]; omega
  have e2 : Int.tmod n 10 = (b : Int) := by rw [Int.tmod_eq_emod_of_nonneg h0]; omega
  have w0 : IntKind.i64.wrap (a : Int) = (a : Int) := IntWalk.i64_in _ (by omega)
  have w1 : IntKind.i64.wrap (48 + (a : Int)) = 48 + (a : Int) := IntWalk.i64_in _ (by omega)
  have w2 : IntKind.i64.wrap (48 + (b : Int)) = 48 + (b : Int) := IntWalk.i64_in _ (by omega)
  have w3 : IntKind.u8.wrap (48 + (a : Int)) = 48 + (a : Int) := IntWalk.u8_in _ (by omega)
  have w4 : IntKind.u8.wrap (48 + (b : Int)) = 48 + (b : Int) := IntWalk.u8_in _ (by omega)
  have HF : Kp (fx 2 n.toNat = [d8 a, d8 b]) := Kp.mk (by
    show ([] ++ [d8 (n.toNat / 10 % 10)]) ++ [d8 (n.toNat % 10)] = _
    rw [ha, hb, Nat.mod_eq_of_lt (by omega)]; rfl)
  clear h0 h1 ha hb
  have hcv : (convert 84 9 (.slice (some ⟨w.heap.size, 0, none⟩) 2 2)).run Tryz.prog (w.alloc (.cells #[.int .u8 (48 + (a : Int)), .int .u8 (48 + (b : Int))] 5)) = .ok (.string (bs [d8 a, d8 b])) (w.alloc (.cells #[.int .u8 (48 + (a : Int)), .int .u8 (48 + (b : Int))] 5)) := by
    have := run_convert_bytes_arg (P := Tryz.prog) (w.alloc (.cells #[.int .u8 (48 + (a : Int)), .int .u8 (48 + (b : Int))] 5)) 84 5 Tryz.underlying84 Tryz.underlying5 w.heap.size 0 2 2 [48 + (a : Int), 48 + (b : Int)] rfl (fun i hi => by
      rcases (show i = 0 ∨ i = 1 by omega) with rfl | rfl
      · rw [World.cell?_alloc_new]; rfl
      · rw [World.cell?_alloc_new]; rfl) 9 Tryz.underlying9
    rw [this]
    unfold strOfNums bs d8
    congr 4
  go_enter Tryz.func56, Tryz.ntmps56
  go_wp2_with fail
  go_ret
  exact ⟨by rw [HF.out]; rfl, (Below.refl w.heap.size w).alloc (Nat.le_refl _) _⟩
/-- all bytes are digits -/
def digB (l : List UInt8) : Bool := l.all fun c => decide (48 ≤ c.toNat) && decide (c.toNat ≤ 57)
theorem digB_iff (l : List UInt8) : digB l = true ↔ ∀ c ∈ l, dig c := by
  unfold digB dig
  rw [List.all_eq_true]
  constructor
  · intro h c hc; have := h c hc; simp at this; exact this
  · intro h c hc; have := h c hc; simp; exact this
theorem bytes_get {s : ByteArray} {m : Nat} (h : m < s.size) : s.data.toList[m]? = some s[m] := by
  have hl : m < s.data.toList.length := by rw [Array.length_toList]; exact h
  rw [List.getElem?_eq_getElem hl]; rfl
theorem digits_is {s : ByteArray} {b : Bool} (hs : s.size ≤ 1000) (hb : digB s.data.toList = b) (w : World) :
    Calls Tryz.prog 57 #[.string s] w fun e w' => e = .returned (.bool b) ∧ w = w' := by
  have hlen : s.data.toList.length = s.size := Array.length_toList
  have HL := Kp.mk hlen
  have HS := Kp.mk hb
  clear hlen hb
  go_enter Tryz.func57, Tryz.ntmps57
  go_wp2_with fail
  go_loop [3] (fun i => ∃ m : Nat, m ≤ s.size ∧ i = .int .i64 m ∧ Kp (∀ k, (h : k < m) → (h2 : k < s.size) → dig s[k])) (fun i => s.size - (intOf i).toNat)
  case atStart => exact ⟨0, by omega, rfl, Kp.mk (fun k h => by omega)⟩
  case round =>
    obtain ⟨m, hm, rfl, HV⟩ := hrel
    by_cases hlt : m < s.size
    · have hw : IntKind.i64.wrap ((m : Int) + 1) = (m : Int) + 1 := IntWalk.i64_in _ (by omega)
      by_cases hd : 48 ≤ s[m].toNat ∧ s[m].toNat ≤ 57
      · have d1 : ¬ (s[m].toNat : Int) < 48 := by omega
        have d2 : ¬ 57 < (s[m].toNat : Int) := by omega
        have HN : Kp (∀ k, (h : k < m + 1) → (h2 : k < s.size) → dig s[k]) := Kp.mk (fun k h h2 => by
          by_cases e : k = m
          · subst e; exact hd
          · exact HV.out k (by omega) h2)
        clear hd
        go_wp2_with fail
        go_round
        case rel => exact ⟨m + 1, by omega, by go_num, HN⟩
        case measure => simp [intOf]; omega
      · have HF : Kp (b = false) := Kp.mk (by
          rw [← HS.out, Bool.eq_false_iff]
          intro h
          have := (digB_iff _).1 h s[m] (List.mem_of_getElem? (bytes_get hlt))
          exact hd this)
        by_cases d1 : (s[m].toNat : Int) < 48
        · clear hd
          go_wp2_with fail
          go_ret
          exact ⟨by rw [HF.out]; rfl, rfl⟩
        · have d2 : 57 < (s[m].toNat : Int) := by omega
          clear hd
          go_wp2_with fail
          go_ret
          exact ⟨by rw [HF.out]; rfl, rfl⟩
    · have HT : Kp (b = true) := Kp.mk (by
        rw [← HS.out, digB_iff]
        intro c hc
        obtain ⟨k, hk, rfl⟩ := List.mem_iff_getElem.1 hc
        have hk2 : k < s.size := by rw [← HL.out]; exact hk
        exact HV.out k (by omega) hk2)
      go_wp2_with fail
      go_ret
      exact ⟨by rw [HT.out]; rfl, rfl⟩
end Go.Proofs.YtoafigehcgledaaGreatDoor
