/-
  DERIVED. CONTRACTS of the own functions of the statements of layer 6: civil, gives.
  DERIVED. CONTRACTS of the reference of layer 6 (civils): two, digits, Text.
  DERIVED. What package civils gives, as structures of contracts. Written by mkciv.py.
  DERIVED. Bytes and pieces of strings, as facts for every world.
  DERIVED. Rows of values that a walk has laid, as every world behind them has them; what the chapter's examples say.
-/
import Derived.Test.YtoafigehcgledaaGreatDoorPCvRefs
import Derived.Test.YtoafigehcgledaaGreatDoorPPa
import Derived.Test.YtoafigehcgledaaGreatDoorPR1b
import Derived.Deep.RegionHeld3
namespace Go.Proofs.YtoafigehcgledaaGreatDoor
open Go.RowKit

theorem civil_is (y m d : Int) (w : World) :
    Calls Tryz.prog 23 #[.int .i64 y, .int .i64 m, .int .i64 d] w fun e w' => e = .returned (.agg #[.int .i64 y, .int .i64 m, .int .i64 d]) ∧ Below w.heap.size w w' := by
  go_enter Tryz.func23, Tryz.ntmps23
  go_wp2_with fail
  refine bodyPost_ret (results_cell_row (p := 6) (ty := 23) rfl _ _ w.heap.size 23 #[.int .i64 y, .int .i64 m, .int .i64 d] (0, 0) _ rfl (heap_alloc_new _ _) Tryz.underlying23 rfl infoCv) rfl ?_
  exact ⟨rfl, (Below.refl w.heap.size w).alloc (Nat.le_refl _) _⟩
theorem gives_ok (y m d : Int) (w : World) :
    Calls Tryz.prog 19 #[.agg #[.int .i64 y, .int .i64 m, .int .i64 d], .int .i64 0, .agg #[.int .i64 y, .int .i64 m, .int .i64 d], .int .i64 0] w fun e w' => e = .returned (.bool true) ∧ Below w.heap.size w w' := by
  have HB := Kp.mk (((Below.refl w.heap.size w).alloc (Nat.le_refl _) (.cells #[.int .i64 y, .int .i64 m, .int .i64 d] 23)).alloc (by simp) (.cells #[.int .i64 y, .int .i64 m, .int .i64 d] 23))
  go_enter Tryz.func19, Tryz.ntmps19
  go_wp2_with fail
  go_ret
  exact ⟨rfl, HB.out⟩
theorem gives_bad {e : Int} (h : ¬ e = 0) (y m d : Int) (w : World) :
    Calls Tryz.prog 19 #[.agg #[.int .i64 0, .int .i64 0, .int .i64 0], .int .i64 e, .agg #[.int .i64 y, .int .i64 m, .int .i64 d], .int .i64 e] w fun e w' => e = .returned (.bool true) ∧ Below w.heap.size w w' := by
  have HB := Kp.mk (((Below.refl w.heap.size w).alloc (Nat.le_refl _) (.cells #[.int .i64 0, .int .i64 0, .int .i64 0] 23)).alloc (by simp) (.cells #[.int .i64 y, .int .i64 m, .int .i64 d] 23))
  have t : (e != 0) = true := by rw [bne_iff_ne]; exact h
  clear h
  go_enter Tryz.func19, Tryz.ntmps19
  go_wp2_with fail
  go_ret
  exact ⟨rfl, HB.out⟩
theorem num_ok (a : Int) (w : World) :
    Calls Tryz.prog 33 #[.int .i64 a, .int .i64 0, .int .i64 a] w fun x w' => x = .returned (.bool true) ∧ w = w' := by
  go_enter Tryz.func33, Tryz.ntmps33
  go_wp2_with fail
  go_ret
  exact ⟨rfl, rfl⟩
end Go.Proofs.YtoafigehcgledaaGreatDoor
namespace Go.Proofs.YtoafigehcgledaaGreatDoor
open Go.RowKit

/-- a string of these bytes -/
def bs (l : List UInt8) : ByteArray := ⟨l.toArray⟩
theorem bs_size (l : List UInt8) : (bs l).size = l.length := by show l.toArray.size = _; simp
theorem bs_app (a b : List UInt8) : bs a ++ bs b = bs (a ++ b) := by
  apply ByteArray.ext
  rw [ByteArray.data_append]
  show a.toArray ++ b.toArray = (a ++ b).toArray
  simp
theorem bs_list (s : ByteArray) : bs s.data.toList = s := by unfold bs; simp
theorem bs_inj {a b : List UInt8} : bs a = bs b ↔ a = b := by
  constructor
  · intro h
    have := congrArg (fun s : ByteArray => s.data.toList) h
    simpa [bs] using this
  · intro h; rw [h]
theorem add_bs {a b : List UInt8} (h : a.length + b.length ≤ 1000) (w : World) : (Op.stringOp .add (bs a) (bs b)).run Tryz.prog w = .ok (.string (bs (a ++ b))) w := by
  have := run_string_add_sum (P := Tryz.prog) w (bs a) (bs b) (by rw [bs_size, bs_size]; omega)
  rw [bs_app] at this
  exact this
theorem two_is {n : Int} (h0 : 0 ≤ n) (h1 : n ≤ 99) (w : World) :
    Calls Tryz.prog 56 #[.int .i64 n] w fun e w' => e = .returned (.string (bs (fx 2 n.toNat))) ∧ Below w.heap.size w w' := by
  obtain ⟨a, ha⟩ : ∃ a, n.toNat / 10 = a := ⟨_, rfl⟩
  obtain ⟨b, hb⟩ : ∃ b, n.toNat % 10 = b := ⟨_, rfl⟩
  have e1 : Int.tdiv n 10 = (a : Int) := by rw [Int.tdiv_eq_ediv_of_nonneg h0]; omega
  have e2 : Int.tmod n 10 = (b : Int) := by rw [Int.tmod_eq_emod_of_nonneg h0]; omega
  have w0 : IntKind.i64.wrap (a : Int) = (a : Int) := IntWalk.i64_in _ (by omega)
  have w1 : IntKind.i64.wrap (48 + (a : Int)) = 48 + (a : Int) := IntWalk.i64_in _ (by omega)
  have w2 : IntKind.i64.wrap (48 + (b : Int)) = 48 + (b : Int) := IntWalk.i64_in _ (by omega)
  have w3 : IntKind.u8.wrap (48 + (a : Int)) = 48 + (a : Int) := IntWalk.u8_in _ (by omega)
  have w4 : IntKind.u8.wrap (48 + (b : Int)) = 48 + (b : Int) := IntWalk.u8_in _ (by omega)
  have HF : Kp (fx 2 n.toNat = [d8 a, d8 b]) := Kp.mk (by
    show ([] ++ [d8 (n.toNat / 10 % 10)]) ++ [d8 (n.toNat % 10)] = _
    rw [ha, hb, Nat.mod_eq_of_lt (by omega)]; rfl)
  clear h0 h1 ha hb
  have hcv : (convert 84 9 (.slice (some ⟨w.heap.size, 0, none⟩) 2 2)).run Tryz.prog (w.alloc (.cells #[.int .u8 (48 + (a : Int)), .int .u8 (48 + (b : Int))] 5)) = .ok (.string (bs [d8 a, d8 b])) (w.alloc (.cells #[.int .u8 (48 + (a : Int)), .int .u8 (48 + (b : Int))] 5)) := by
    have := run_convert_bytes_arg (P := Tryz.prog) (w.alloc (.cells #[.int .u8 (48 + (a : Int)), .int .u8 (48 + (b : Int))] 5)) 84 5 Tryz.underlying84 Tryz.underlying5 w.heap.size 0 2 2 [48 + (a : Int), 48 + (b : Int)] rfl (fun i hi => by
      rcases (show i = 0 ∨ i = 1 by omega) with rfl | rfl
      · rw [World.cell?_alloc_new]; rfl
      · rw [World.cell?_alloc_new]; rfl) 9 Tryz.underlying9
    rw [this]
    unfold strOfNums bs d8
    congr 4
  go_enter Tryz.func56, Tryz.ntmps56
  go_wp2_with fail
  go_ret
  exact ⟨by rw [HF.out]; rfl, (Below.refl w.heap.size w).alloc (Nat.le_refl _) _⟩
/-- all bytes are digits -/
def digB (l : List UInt8) : Bool := l.all fun c => decide (48 ≤ c.toNat) && decide (c.toNat ≤ 57)
theorem digB_iff (l : List UInt8) : digB l = true ↔ ∀ c ∈ l, dig c := by
  unfold digB dig
  rw [List.all_eq_true]
  constructor
  · intro h c hc; have := h c hc; simp at this; exact this
  · intro h c hc; have := h c hc; simp; exact this
theorem bytes_get {s : ByteArray} {m : Nat} (h : m < s.size) : s.data.toList[m]? = some s[m] := by
  have hl : m < s.data.toList.length := by rw [Array.length_toList]; exact h
  rw [List.getElem?_eq_getElem hl]; rfl
theorem digits_is {s : ByteArray} {b : Bool} (hs : s.size ≤ 1000) (hb : digB s.data.toList = b) (w : World) :
    Calls Tryz.prog 57 #[.string s] w fun e w' => e = .returned (.bool b) ∧ w = w' := by
  have hlen : s.data.toList.length = s.size := Array.length_toList
  have HL := Kp.mk hlen
  have HS := Kp.mk hb
  clear hlen hb
  go_enter Tryz.func57, Tryz.ntmps57
  go_wp2_with fail
  go_loop [3] (fun i => ∃ m : Nat, m ≤ s.size ∧ i = .int .i64 m ∧ Kp (∀ k, (h : k < m) → (h2 : k < s.size) → dig s[k])) (fun i => s.size - (intOf i).toNat)
  case atStart => exact ⟨0, by omega, rfl, Kp.mk (fun k h => by omega)⟩
  case round =>
    obtain ⟨m, hm, rfl, HV⟩ := hrel
    by_cases hlt : m < s.size
    · have hw : IntKind.i64.wrap ((m : Int) + 1) = (m : Int) + 1 := IntWalk.i64_in _ (by omega)
      by_cases hd : 48 ≤ s[m].toNat ∧ s[m].toNat ≤ 57
      · have d1 : ¬ (s[m].toNat : Int) < 48 := by omega
        have d2 : ¬ 57 < (s[m].toNat : Int) := by omega
        have HN : Kp (∀ k, (h : k < m + 1) → (h2 : k < s.size) → dig s[k]) := Kp.mk (fun k h h2 => by
          by_cases e : k = m
          · subst e; exact hd
          · exact HV.out k (by omega) h2)
        clear hd
        go_wp2_with fail
        go_round
        case rel => exact ⟨m + 1, by omega, by go_num, HN⟩
        case measure => simp [intOf]; omega
      · have HF : Kp (b = false) := Kp.mk (by
          rw [← HS.out, Bool.eq_false_iff]
          intro h
          have := (digB_iff _).1 h s[m] (List.mem_of_getElem? (bytes_get hlt))
          exact hd this)
        by_cases d1 : (s[m].toNat : Int) < 48
        · clear hd
          go_wp2_with fail
          go_ret
          exact ⟨by rw [HF.out]; rfl, rfl⟩
        · have d2 : 57 < (s[m].toNat : Int) := by omega
          clear hd
          go_wp2_with fail
          go_ret
          exact ⟨by rw [HF.out]; rfl, rfl⟩
    · have HT : Kp (b = true) := Kp.mk (by
        rw [← HS.out, digB_iff]
        intro c hc
        obtain ⟨k, hk, rfl⟩ := List.mem_iff_getElem.1 hc
        have hk2 : k < s.size := by rw [← HL.out]; exact hk
        exact HV.out k (by omega) hk2)
      go_wp2_with fail
      go_ret
      exact ⟨by rw [HT.out]; rfl, rfl⟩
end Go.Proofs.YtoafigehcgledaaGreatDoor
namespace Go.Proofs.YtoafigehcgledaaGreatDoor
open Go.RowKit

/-- what package civils gives -/
structure CivCore (I : World → Prop) : Prop where
  keep : ∀ {w w' : World}, I w → Below w.heap.size w w' → I w'
  check : ∀ {y m d c : Int} (w : World), I w → -9223372036854775808 ≤ y → y ≤ 9223372036854775807 → -9223372036854775808 ≤ m → m ≤ 9223372036854775807 → -9223372036854775808 ≤ d → d ≤ 9223372036854775807 → chkC y m d = c → Calls Tryz.prog 13 #[.agg #[.int .i64 y, .int .i64 m, .int .i64 d]] w fun e w' => e = .returned (.int .i64 c) ∧ Below w.heap.size w w'
  day_in : ∀ {y m d v : Int} (w : World), I w → Right y m d → Dc y m d = v → Calls Tryz.prog 11 #[.agg #[.int .i64 y, .int .i64 m, .int .i64 d]] w fun e w' => e = .returned (.tuple #[.int .i64 v, .int .i64 0]) ∧ Below w.heap.size w w'
  day_out : ∀ {y m d c : Int} (w : World), I w → -9223372036854775808 ≤ y → y ≤ 9223372036854775807 → -9223372036854775808 ≤ m → m ≤ 9223372036854775807 → -9223372036854775808 ≤ d → d ≤ 9223372036854775807 → chkC y m d = c → ¬ c = 0 → Calls Tryz.prog 11 #[.agg #[.int .i64 y, .int .i64 m, .int .i64 d]] w fun e w' => e = .returned (.tuple #[.int .i64 0, .int .i64 c]) ∧ Below w.heap.size w w'
  of_in : ∀ {n y m d : Int} (w : World), I w → Right y m d → Dc y m d = n → Calls Tryz.prog 16 #[.int .i64 n] w fun e w' => e = .returned (.tuple #[.agg #[.int .i64 y, .int .i64 m, .int .i64 d], .int .i64 0]) ∧ Below w.heap.size w w'
  of_out : ∀ {n y : Int} (w : World), I w → -9223372036854775808 ≤ n → n ≤ 9223372036854775807 → YearHas y n → isY y = false → Calls Tryz.prog 16 #[.int .i64 n] w fun e w' => e = .returned (.tuple #[.agg #[.int .i64 0, .int .i64 0, .int .i64 0], .int .i64 6]) ∧ Below w.heap.size w w'
  wday : ∀ {n v : Int} (w : World), I w → -9223372036854775808 ≤ n → n ≤ 9223372036854775807 → wday n = v → Calls Tryz.prog 20 #[.int .i64 n] w fun e w' => e = .returned (.int .i64 v) ∧ Below w.heap.size w w'
  ord_in : ∀ {y m d v : Int} (w : World), I w → Right y m d → ordC y m d = v → Calls Tryz.prog 12 #[.agg #[.int .i64 y, .int .i64 m, .int .i64 d]] w fun e w' => e = .returned (.tuple #[.int .i64 v, .int .i64 0]) ∧ Below w.heap.size w w'
  ord_out : ∀ {y m d c : Int} (w : World), I w → -9223372036854775808 ≤ y → y ≤ 9223372036854775807 → -9223372036854775808 ≤ m → m ≤ 9223372036854775807 → -9223372036854775808 ≤ d → d ≤ 9223372036854775807 → chkC y m d = c → ¬ c = 0 → Calls Tryz.prog 12 #[.agg #[.int .i64 y, .int .i64 m, .int .i64 d]] w fun e w' => e = .returned (.tuple #[.int .i64 0, .int .i64 c]) ∧ Below w.heap.size w w'
  from_in : ∀ {y m d n : Int} (w : World), I w → Right y m d → ordC y m d = n → Calls Tryz.prog 17 #[.int .i64 y, .int .i64 n] w fun e w' => e = .returned (.tuple #[.agg #[.int .i64 y, .int .i64 m, .int .i64 d], .int .i64 0]) ∧ Below w.heap.size w w'
  from_year : ∀ {y n : Int} (w : World), I w → -9223372036854775808 ≤ y → y ≤ 9223372036854775807 → -9223372036854775808 ≤ n → n ≤ 9223372036854775807 → isY y = false → Calls Tryz.prog 17 #[.int .i64 y, .int .i64 n] w fun e w' => e = .returned (.tuple #[.agg #[.int .i64 0, .int .i64 0, .int .i64 0], .int .i64 6]) ∧ Below w.heap.size w w'
  from_out : ∀ {y n : Int} (w : World), I w → -9223372036854775808 ≤ y → y ≤ 9223372036854775807 → -9223372036854775808 ≤ n → n ≤ 9223372036854775807 → isY y = true → ¬ (1 ≤ n ∧ n ≤ lenI y) → Calls Tryz.prog 17 #[.int .i64 y, .int .i64 n] w fun e w' => e = .returned (.tuple #[.agg #[.int .i64 0, .int .i64 0, .int .i64 0], .int .i64 4]) ∧ Below w.heap.size w w'
  cmp : ∀ {a b c x y z v : Int} (w : World), I w → -9223372036854775808 ≤ a → a ≤ 9223372036854775807 → -9223372036854775808 ≤ b → b ≤ 9223372036854775807 → -9223372036854775808 ≤ c → c ≤ 9223372036854775807 → -9223372036854775808 ≤ x → x ≤ 9223372036854775807 → -9223372036854775808 ≤ y → y ≤ 9223372036854775807 → -9223372036854775808 ≤ z → z ≤ 9223372036854775807 → cmpC a b c x y z = v → Calls Tryz.prog 25 #[.agg #[.int .i64 a, .int .i64 b, .int .i64 c], .agg #[.int .i64 x, .int .i64 y, .int .i64 z]] w fun e w' => e = .returned (.int .i64 v) ∧ Below w.heap.size w w'
structure CivFns (I : World → Prop) : Prop extends CivCore I where
  lives : ∀ (w : World), I w → Calls Tryz.prog 14 #[] w fun e w' => e = .returned (.bool true) ∧ Below w.heap.size w w'
/-- what package civils gives for texts -/
structure CivTxt (I : World → Prop) : Prop where
  text_in : ∀ {y m d : Int} (w : World), I w → Right y m d → Calls Tryz.prog 27 #[.agg #[.int .i64 y, .int .i64 m, .int .i64 d]] w fun x w' => x = .returned (.tuple #[.string (bs (textC y m d)), .int .i64 0]) ∧ Below w.heap.size w w'
  text_out : ∀ {y m d c : Int} (w : World), I w → -9223372036854775808 ≤ y → y ≤ 9223372036854775807 → -9223372036854775808 ≤ m → m ≤ 9223372036854775807 → -9223372036854775808 ≤ d → d ≤ 9223372036854775807 → chkC y m d = c → ¬ c = 0 → Calls Tryz.prog 27 #[.agg #[.int .i64 y, .int .i64 m, .int .i64 d]] w fun x w' => x = .returned (.tuple #[.string ⟨#[]⟩, .int .i64 c]) ∧ Below w.heap.size w w'
  parse_in : ∀ {l : List UInt8} {neg : Bool} {yr : List UInt8} {a b c d : UInt8} (w : World), I w → CvForm l neg yr a b c d → l.length ≤ 100 → chkC (yv neg yr) (tv a b) (tv c d) = 0 → Calls Tryz.prog 28 #[.string (bs l)] w fun x w' => x = .returned (.tuple #[.agg #[.int .i64 (yv neg yr), .int .i64 (tv a b), .int .i64 (tv c d)], .int .i64 0]) ∧ Below w.heap.size w w'
  parse_err : ∀ {l : List UInt8} {neg : Bool} {yr : List UInt8} {a b c d : UInt8} {e : Int} (w : World), I w → CvForm l neg yr a b c d → l.length ≤ 100 → chkC (yv neg yr) (tv a b) (tv c d) = e → ¬ e = 0 → Calls Tryz.prog 28 #[.string (bs l)] w fun x w' => x = .returned (.tuple #[.agg #[.int .i64 0, .int .i64 0, .int .i64 0], .int .i64 e]) ∧ Below w.heap.size w w'
  parse_no : ∀ {l : List UInt8} (w : World), I w → (¬ ∃ neg yr a b c d, CvForm l neg yr a b c d) → l.length ≤ 100 → Calls Tryz.prog 28 #[.string (bs l)] w fun x w' => x = .returned (.tuple #[.agg #[.int .i64 0, .int .i64 0, .int .i64 0], .int .i64 5]) ∧ Below w.heap.size w w'
end Go.Proofs.YtoafigehcgledaaGreatDoor
namespace Go.Proofs.YtoafigehcgledaaGreatDoor
open Go.RowKit

theorem bs_get {l : List UInt8} {i : Nat} {c : UInt8} (h : l[i]? = some c) : ∃ hi : i < (bs l).size, (bs l)[i] = c := by
  obtain ⟨hi, e⟩ := List.getElem?_eq_some_iff.1 h
  exact ⟨by rw [bs_size]; exact hi, e⟩
theorem idx_bs {l : List UInt8} {i : Nat} {c : UInt8} (h : l[i]? = some c) (w : World) :
    (Instr.index 9 (.string (bs l)) (.int .i64 (i : Int))).run Tryz.prog w = .ok (.int .u8 (c.toNat : Int)) w := by
  obtain ⟨hi, e⟩ := bs_get h
  rw [run_index_string (P := Tryz.prog) w 9 (bs l) .i64 (i : Int) Tryz.underlying9, dif_pos ⟨by omega, by omega⟩]
  simp only [Int.toNat_natCast, e]
theorem ext_bs (l : List UInt8) (i j : Nat) : (bs l).extract i j = bs ((l.take j).drop i) := by
  apply ByteArray.ext
  rw [ByteArray.data_extract]
  show l.toArray.extract i j = ((l.take j).drop i).toArray
  rw [List.extract_toArray]
  rw [List.extract_eq_take_drop, List.drop_take]
theorem from_bs {l : List UInt8} {i : Nat} (h : i ≤ l.length) (w : World) :
    (Instr.slice 9 (.string (bs l)) (some (.int .i64 (i : Int))) none none).run Tryz.prog w = .ok (.string (bs (l.drop i))) w := by
  have hs := bs_size l
  rw [run_slice_string_l (P := Tryz.prog) w 9 (bs l) Tryz.underlying9 .i64 (i : Int) (by omega) (by rw [hs]; omega)]
  rw [Int.toNat_natCast, ext_bs l i _, hs, List.take_length]
theorem to_bs {l : List UInt8} {i : Nat} (h : i ≤ l.length) (w : World) :
    (Instr.slice 9 (.string (bs l)) none (some (.int .i64 (i : Int))) none).run Tryz.prog w = .ok (.string (bs (l.take i))) w := by
  have hs := bs_size l
  rw [run_slice_string_h (P := Tryz.prog) w 9 (bs l) Tryz.underlying9 .i64 (i : Int) (by omega) (by rw [hs]; omega)]
  rw [Int.toNat_natCast, ext_bs l 0 _, List.drop_zero]
theorem mid_bs {l : List UInt8} {i j : Nat} (hij : i ≤ j) (h : j ≤ l.length) (w : World) :
    (Instr.slice 9 (.string (bs l)) (some (.int .i64 (i : Int))) (some (.int .i64 (j : Int))) none).run Tryz.prog w = .ok (.string (bs ((l.take j).drop i))) w := by
  have hs := bs_size l
  rw [run_slice_string (P := Tryz.prog) (w := w) 9 (bs l) .i64 .i64 (i : Int) (j : Int) Tryz.underlying9 (by omega) (by omega) (by rw [hs]; omega)]
  rw [Int.toNat_natCast, Int.toNat_natCast, ext_bs l i j]
/-- a text cut into its last six bytes and what stands ahead -/
structure Cut (l z : List UInt8) (p a b q c d : UInt8) (k : Nat) : Prop where
  eq : l = z ++ [p, a, b, q, c, d]
  len : z.length = k
theorem Cut.at {l z : List UInt8} {p a b q c d : UInt8} {k : Nat} (h : Cut l z p a b q c d k) (j : Nat) : l[k + j]? = [p, a, b, q, c, d][j]? := by
  rw [h.eq, List.getElem?_append_right (by rw [h.len]; omega), h.len]
  congr 1; omega
theorem Cut.size {l z : List UInt8} {p a b q c d : UInt8} {k : Nat} (h : Cut l z p a b q c d k) : l.length = k + 6 := by rw [h.eq, List.length_append, h.len]; rfl
theorem Cut.z {l z : List UInt8} {p a b q c d : UInt8} {k : Nat} (h : Cut l z p a b q c d k) : l.take k = z := by rw [h.eq, List.take_append_of_le_length (by rw [h.len]; exact Nat.le_refl _), ← h.len, List.take_length]
theorem Cut.dd {l z : List UInt8} {p a b q c d : UInt8} {k : Nat} (h : Cut l z p a b q c d k) : l.drop (k + 4) = [c, d] := by
  rw [h.eq, List.drop_append, h.len, List.drop_eq_nil_of_le (by rw [h.len]; omega), show k + 4 - k = 4 by omega]; rfl
theorem Cut.mm {l z : List UInt8} {p a b q c d : UInt8} {k : Nat} (h : Cut l z p a b q c d k) : (l.take (k + 3)).drop (k + 1) = [a, b] := by
  rw [h.eq, List.take_append, h.len, List.take_of_length_le (by rw [h.len]; omega), List.drop_append, h.len, List.drop_eq_nil_of_le (by rw [h.len]; omega), show k + 3 - k = 3 by omega, show k + 1 - k = 1 by omega]; rfl
theorem cut_ex {l : List UInt8} (h : 10 ≤ l.length) : ∃ z p a b q c d k, Cut l z p a b q c d k ∧ 4 ≤ k := by
  have h1 := (List.take_append_drop (l.length - 6) l).symm
  have h2 : (l.drop (l.length - 6)).length = 6 := by rw [List.length_drop]; omega
  match l.drop (l.length - 6), h2, h1 with
  | [p, a, b, q, c, d], _, h1 => exact ⟨_, p, a, b, q, c, d, _, ⟨h1, rfl⟩, by rw [List.length_take]; omega⟩
end Go.Proofs.YtoafigehcgledaaGreatDoor
namespace Go.Proofs.YtoafigehcgledaaGreatDoor
open Go.RowKit

structure Vals (w : World) (g : Nat) (l : List Value) (W : World) : Prop where
  below : Below w.heap.size w W
  size : g < W.heap.size
  v_at : ∀ i v, l[i]? = some v → W.cell? ⟨g, i, none⟩ = some v
theorem Vals.step {w W W' : World} {g : Nat} {l : List Value} (h : Vals w g l W) (hb : Below W.heap.size W W') : Vals w g l W' :=
  ⟨h.below.trans (hb.mono h.below.size), by have := hb.size; have := h.size; omega, fun i v hi => by rw [hb.cell (p := ⟨g, i, none⟩) h.size]; exact h.v_at i v hi⟩
theorem vals_new {w W : World} (l : List Value) (t : TypeId) (hb : Below w.heap.size w W) : Vals w W.heap.size l (W.alloc (.cells l.toArray t)) :=
  ⟨hb.alloc hb.size _, by simp, fun i v hi => by rw [World.cell?_alloc_new, List.getElem?_toArray]; exact hi⟩
theorem Vals.other {w W : World} {g k : Nat} {l : List Value} (h : Vals w g l W) (hk : ¬ g = k) (hg : w.heap.size ≤ k) (a b c : Int) : Vals w g l (World.set3 W k a b c) :=
  ⟨below_set3 h.below hg a b c, by rw [size_set3]; exact h.size, fun i v hi => by rw [cell_set3 W a b c i hk]; exact h.v_at i v hi⟩
/-- the texts of the examples -/
theorem txt_5 : bs (textC 5 6 7) = ⟨#[48, 48, 48, 53, 45, 48, 54, 45, 48, 55]⟩ := by
  have : textC 5 6 7 = [48, 48, 48, 53, 45, 48, 54, 45, 48, 55] := by
    unfold textC
    rw [show (5 : Int).natAbs = 5 from rfl, pad_four (by decide)]
    decide
  rw [this]; rfl
theorem txt_12345 : bs (textC (-12345) 11 30) = ⟨#[45, 49, 50, 51, 52, 53, 45, 49, 49, 45, 51, 48]⟩ := by
  have : textC (-12345) 11 30 = [45, 49, 50, 51, 52, 53, 45, 49, 49, 45, 51, 48] := by
    unfold textC
    rw [show (-12345 : Int).natAbs = 12345 from rfl, pad_big (k := 4) (by decide) (by decide) (by decide)]
    decide
  rw [this]; rfl
theorem form_5 : CvForm [48, 48, 48, 53, 45, 48, 54, 45, 48, 55] false [48, 48, 48, 53] 48 54 48 55 := by
  refine ⟨rfl, ?_, by decide, by decide, by decide, ?_, ?_, ?_, ?_⟩ <;> unfold dig <;> decide
theorem form_2001 : CvForm [50, 48, 48, 49, 45, 48, 50, 45, 50, 57] false [50, 48, 48, 49] 48 50 50 57 := by
  refine ⟨rfl, ?_, by decide, by decide, by decide, ?_, ?_, ?_, ?_⟩ <;> unfold dig <;> decide
theorem no_short {l : List UInt8} (h : l.length < 10) : ¬ ∃ neg yr a b c d, CvForm l neg yr a b c d := by
  rintro ⟨neg, yr, a, b, c, d, hF⟩
  have h4 := hF.four
  have he := congrArg List.length hF.eq
  cases neg <;> simp at he <;> omega
theorem no_zero : ¬ ∃ neg yr a b c d, CvForm [45, 48, 48, 48, 48, 45, 48, 49, 45, 48, 49] neg yr a b c d := by
  rintro ⟨neg, yr, a, b, c, d, hF⟩
  have he := congrArg (List.take 5) hF.eq
  have hl := congrArg List.length hF.eq
  cases neg
  · simp at hl
    have h5 : yr.length = 5 := by omega
    rw [show (if false = true then [45] else ([] : List UInt8)) = [] from rfl, List.nil_append, List.take_append_of_le_length (by omega), ← h5, List.take_length] at he
    have := hF.ds 45 (by rw [← he, h5]; decide)
    unfold dig at this
    revert this; decide
  · simp at hl
    have h4 : yr.length = 4 := by omega
    have he2 : ([48, 48, 48, 48] : List UInt8) = yr := by
      have h := congrArg (fun l => (l.drop 1).take 4) hF.eq
      have e : (if true = true then [45] else ([] : List UInt8)) ++ yr ++ [45, a, b, 45, c, d] = 45 :: (yr ++ [45, a, b, 45, c, d]) := rfl
      rw [e] at h
      have h2 : ([48, 48, 48, 48] : List UInt8) = (yr ++ [45, a, b, 45, c, d]).take 4 := h
      rw [List.take_append_of_le_length (by omega), ← h4, List.take_length] at h2
      exact h2
    exact hF.nz ⟨rfl, he2.symm⟩
end Go.Proofs.YtoafigehcgledaaGreatDoor
