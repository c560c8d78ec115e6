/-
  DERIVED. What package civils gives, as structures of contracts. Written by mkciv.py.
-/
import Derived.Test.YtoafigehcgledaaGreatDoorCvOwn
import Derived.Test.YtoafigehcgledaaGreatDoorCvRefT
import Derived.Deep.RegionHeld3
namespace Go.Proofs.YtoafigehcgledaaGreatDoor
open Go.RowKit

/-- what package civils gives -/
structure CivCore (I : World → Prop) : Prop where
  keep : ∀ {w w' : World}, I w → Below w.heap.size w w' → I w'
  check : ∀ {y m d c : Int} (w : World), I w → -9223372036854775808 ≤ y → y ≤ 9223372036854775807 → -9223372036854775808 ≤ m → m ≤ 9223372036854775807 → -9223372036854775808 ≤ d → d ≤ 9223372036854775807 → chkC y m d = c → Calls Tryz.prog 13 #[.agg #[.int .i64 y, .int .i64 m, .int .i64 d]] w fun e w' => e = .returned (.int .i64 c) ∧ Below w.heap.size w w'
  day_in : ∀ {y m d v : Int} (w : World), I w → Right y m d → Dc y m d = v → Calls Tryz.prog 11 #[.agg #[.int .i64 y, .int .i64 m, .int .i64 d]] w fun e w' => e = .returned (.tuple #[.int .i64 v, .int .i64 0]) ∧ Below w.heap.size w w'
  day_out : ∀ {y m d c : Int} (w : World), I w → -9223372036854775808 ≤ y → y ≤ 9223372036854775807 → -9223372036854775808 ≤ m → m ≤ 9223372036854775807 → -9223372036854775808 ≤ d → d ≤ 9223372036854775807 → chkC y m d = c → ¬ c = 0 → Calls Tryz.prog 11 #[.agg #[.int .i64 y, .int .i64 m, .int .i64 d]] w fun e w' => e = .returned (.tuple #[.int .i64 0, .int .i64 c]) ∧ Below w.heap.size w w'
  of_in : ∀ {n y m d : Int} (w : World), I w → Right y m d → Dc y m d = n → Calls Tryz.prog 16 #[.int .i64 n] w fun e w' => e = .returned (.tuple #[.agg #[.int .i64 y, .int .i64 m, .int .i64 d], .int .i64 0]) ∧ Below w.heap.size w w'
  of_out : ∀ {n y : Int} (w : World), I w → -9223372036854775808 ≤ n → n ≤ 9223372036854775807 → YearHas y n → isY y = false → Calls Tryz.prog 16 #[.int .i64 n] w fun e w' => e = .returned (.tuple #[.agg #[.int .i64 0, .int .i64 0, .int .i64 0], .int .i64 6]) ∧ Below w.heap.size w w'
  wday : ∀ {n v : Int} (w : World), I w → -9223372036854775808 ≤ n → n ≤ 9223372036854775807 → wday n = v → Calls Tryz.prog 20 #[.int .i64 n] w fun e w' => e = .returned (.int .i64 v) ∧ Below w.heap.size w w'
  ord_in : ∀ {y m d v : Int} (w : World), I w → Right y m d → ordC y m d = v → Calls Tryz.prog 12 #[.agg #[.int .i64 y, .int .i64 m, .int .i64 d]] w fun e w' => e = .returned (.tuple #[.int .i64 v, .int .i64 0]) ∧ Below w.heap.size w w'
  ord_out : ∀ {y m d c : Int} (w : World), I w → -9223372036854775808 ≤ y → y ≤ 9223372036854775807 → -9223372036854775808 ≤ m → m ≤ 9223372036854775807 → -9223372036854775808 ≤ d → d ≤ 9223372036854775807 → chkC y m d = c → ¬ c = 0 → Calls Tryz.prog 12 #[.agg #[.int .i64 y, .int .i64 m, .int .i64 d]] w fun e w' => e = .returned (.tuple #[.int .i64 0, .int .i64 c]) ∧ Below w.heap.size w w'
  from_in : ∀ {y m d n : Int} (w : World), I w → Right y m d → ordC y m d = n → Calls Tryz.prog 17 #[.int .i64 y, .int .i64 n] w fun e w' => e = .returned (.tuple #[.agg #[.int .i64 y, .int .i64 m, .int .i64 d], .int .i64 0]) ∧ Below w.heap.size w w'
  from_year : ∀ {y n : Int} (w : World), I w → -9223372036854775808 ≤ y → y ≤ 9223372036854775807 → -9223372036854775808 ≤ n → n ≤ 9223372036854775807 → isY y = false → Calls Tryz.prog 17 #[.int .i64 y, .int .i64 n] w fun e w' => e = .returned (.tuple #[.agg #[.int .i64 0, .int .i64 0, .int .i64 0], .int .i64 6]) ∧ Below w.heap.size w w'
  from_out : ∀ {y n : Int} (w : World), I w → -9223372036854775808 ≤ y → y ≤ 9223372036854775807 → -9223372036854775808 ≤ n → n ≤ 9223372036854775807 → isY y = true → ¬ (1 ≤ n ∧ n ≤ lenI y) → Calls Tryz.prog 17 #[.int .i64 y, .int .i64 n] w fun e w' => e = .returned (.tuple #[.agg #[.int .i64 0, .int .i64 0, .int .i64 0], .int .i64 4]) ∧ Below w.heap.size w w'
  cmp : ∀ {a b c x y z v : Int} (w : World), I w → -9223372036854775808 ≤ a → a ≤ 9223372036854775807 → -9223372036854775808 ≤ b → b ≤ 9223372036854775807 → -9223372036854775808 ≤ c → c ≤ 9223372036854775807 → -9223372036854775808 ≤ x → x ≤ 9223372036854775807 → -9223372036854775808 ≤ y → y ≤ 9223372036854775807 → -9223372036854775808 ≤ z → z ≤ 9223372036854775807 → cmpC a b c x y z = v → Calls Tryz.prog 25 #[.agg #[.int .i64 a, .int .i64 b, .int .i64 c], .agg #[.int .i64 x, .int .i64 y, .int .i64 z]] w fun e w' => e = .returned (.int .i64 v) ∧ Below w.heap.size w w'
structure CivFns (I : World → Prop) : Prop extends CivCore I where
  lives : ∀ (w : World), I w → Calls Tryz.prog 14 #[] w fun e w' => e = .returned (.bool true) ∧ Below w.heap.size w w'
/-- what package civils gives for texts -/
structure CivTxt (I : World → Prop) : Prop where
  text_in : ∀ {y m d : Int} (w : World), I w → Right y m d → Calls Tryz.prog 27 #[.agg #[.int .i64 y, .int .i64 m, .int .i64 d]] w fun x w' => x = .returned (.tuple #[.string (bs (textC y m d)), .int .i64 0]) ∧ Below w.heap.size w w'
  text_out : ∀ {y m d c : Int} (w : World), I w → -9223372036854775808 ≤ y → y ≤ 9223372036854775807 → -9223372036854775808 ≤ m → m ≤ 9223372036854775807 → -9223372036854775808 ≤ d → d ≤ 9223372036854775807 → chkC y m d = c → ¬ c = 0 → Calls Tryz.prog 27 #[.agg #[.int .i64 y, .int .i64 m, .int .i64 d]] w fun x w' => x = .returned (.tuple #[.string ⟨#[]⟩, .int .i64 c]) ∧ Below w.heap.size w w'
  parse_in : ∀ {l : List UInt8} {neg : Bool} {yr : List UInt8} {a b c d : UInt8} (w : World), I w → CvForm l neg yr a b c d → l.length ≤ 100 → chkC (yv neg yr) (tv a b) (tv c d) = 0 → Calls Tryz.prog 28 #[.string (bs l)] w fun x w' => x = .returned (.tuple #[.agg #[.int .i64 (yv neg yr), .int .i64 (tv a b), .int .i64 (tv c d)], .int .i64 0]) ∧ Below w.heap.size w w'
  parse_err : ∀ {l : List UInt8} {neg : Bool} {yr : List UInt8} {a b c d : UInt8} {e : Int} (w : World), I w → CvForm l neg yr a b c d → l.length ≤ 100 → chkC (yv neg yr) (tv a b) (tv c d) = e → ¬ e = 0 → Calls Tryz.prog 28 #[.string (bs l)] w fun x w' => x = .returned (.tuple #[.agg #[.int .i64 0, .int .i64 0, .int .i64 0], .int .i64 e]) ∧ Below w.heap.size w w'
  parse_no : ∀ {l : List UInt8} (w : World), I w → (¬ ∃ neg yr a b c d, CvForm l neg yr a b c d) → l.length ≤ 100 → Calls Tryz.prog 28 #[.string (bs l)] w fun x w' => x = .returned (.tuple #[.agg #[.int .i64 0, .int .i64 0, .int .i64 0], .int .i64 5]) ∧ Below w.heap.size w w'
end Go.Proofs.YtoafigehcgledaaGreatDoor
