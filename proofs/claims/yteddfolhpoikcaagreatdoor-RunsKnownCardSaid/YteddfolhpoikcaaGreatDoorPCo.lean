/-
 DERIVED. What package runs gives that the statement on runs as sets of days needs, as structures of contracts; the statements' own functions. Written by mkrn.py, then split by hand.
 DERIVED. What package runs gives, as structures of contracts. Written by mkrn.py, then split by hand.
-/
import Derived.Test.YteddfolhpoikcaaGreatDoorPRg
import Derived.Test.YteddfolhpoikcaaGreatDoorPR1a
import Derived.Deep.RegionHeld3
namespace Go.Proofs.YteddfolhpoikcaaGreatDoor
open Go.RowKit
set_option maxRecDepth 100000

/-- what package runs gives -/
structure RunCoreA (I : World → Prop) : Prop where
 keep : ∀ {w w' : World}, I w → Below w.heap.size w w' → I w'
 check : ∀ {a : Rn} {c : Int} (w : World), I w → a.In → chkR a = c → Calls Tryz.prog 9 #[.agg #[.int .i8 a.f, .int .i64 a.d, .int .i8 a.g, .int .i64 a.e]] w fun z w' => z = .returned (.int .i64 c) ∧ Below w.heap.size w w'
 has : ∀ {a : Rn} {x : Int} {v : Bool} (w : World), I w → a.In → -9223372036854775808 ≤ x → x ≤ 9223372036854775807 → hasN a x = v → Calls Tryz.prog 22 #[.agg #[.int .i8 a.f, .int .i64 a.d, .int .i8 a.g, .int .i64 a.e], .int .i64 x] w fun z w' => z = .returned (.bool v) ∧ Below w.heap.size w w'
 touch : ∀ {a b : Rn} {v : Bool} (w : World), I w → a.In → b.In → touchN a b = v → Calls Tryz.prog 16 #[.agg #[.int .i8 a.f, .int .i64 a.d, .int .i8 a.g, .int .i64 a.e], .agg #[.int .i8 b.f, .int .i64 b.d, .int .i8 b.g, .int .i64 b.e]] w fun z w' => z = .returned (.bool v) ∧ Below w.heap.size w w'
 join : ∀ {a b v : Rn} (w : World), I w → a.In → b.In → touchN a b = true → joinN a b = v → Calls Tryz.prog 14 #[.agg #[.int .i8 a.f, .int .i64 a.d, .int .i8 a.g, .int .i64 a.e], .agg #[.int .i8 b.f, .int .i64 b.d, .int .i8 b.g, .int .i64 b.e]] w fun z w' => z = .returned (.tuple #[.agg #[.int .i8 v.f, .int .i64 v.d, .int .i8 v.g, .int .i64 v.e], .bool true]) ∧ Below w.heap.size w w'
 join_no : ∀ {a b : Rn} (w : World), I w → a.In → b.In → touchN a b = false → Calls Tryz.prog 14 #[.agg #[.int .i8 a.f, .int .i64 a.d, .int .i8 a.g, .int .i64 a.e], .agg #[.int .i8 b.f, .int .i64 b.d, .int .i8 b.g, .int .i64 b.e]] w fun z w' => z = .returned (.tuple #[.agg #[.int .i8 0, .int .i64 0, .int .i8 0, .int .i64 0], .bool false]) ∧ Below w.heap.size w w'
 comm : ∀ {a b v : Rn} (w : World), I w → a.In → b.In → meetN a b = true → commN a b = v → Calls Tryz.prog 15 #[.agg #[.int .i8 a.f, .int .i64 a.d, .int .i8 a.g, .int .i64 a.e], .agg #[.int .i8 b.f, .int .i64 b.d, .int .i8 b.g, .int .i64 b.e]] w fun z w' => z = .returned (.tuple #[.agg #[.int .i8 v.f, .int .i64 v.d, .int .i8 v.g, .int .i64 v.e], .bool true]) ∧ Below w.heap.size w w'
 comm_no : ∀ {a b : Rn} (w : World), I w → a.In → b.In → meetN a b = false → Calls Tryz.prog 15 #[.agg #[.int .i8 a.f, .int .i64 a.d, .int .i8 a.g, .int .i64 a.e], .agg #[.int .i8 b.f, .int .i64 b.d, .int .i8 b.g, .int .i64 b.e]] w fun z w' => z = .returned (.tuple #[.agg #[.int .i8 0, .int .i64 0, .int .i8 0, .int .i64 0], .bool false]) ∧ Below w.heap.size w w'
 within : ∀ {a b : Rn} {v : Bool} (w : World), I w → a.In → b.In → inN a b = v → Calls Tryz.prog 20 #[.agg #[.int .i8 a.f, .int .i64 a.d, .int .i8 a.g, .int .i64 a.e], .agg #[.int .i8 b.f, .int .i64 b.d, .int .i8 b.g, .int .i64 b.e]] w fun z w' => z = .returned (.bool v) ∧ Below w.heap.size w w'
 len_ok : ∀ {a : Rn} {n c : Int} (w : World), I w → a.In → chkR a = 0 → lenN a = n → lenC a = c → Calls Tryz.prog 25 #[.agg #[.int .i8 a.f, .int .i64 a.d, .int .i8 a.g, .int .i64 a.e]] w fun z w' => z = .returned (.tuple #[.int .i64 n, .int .i64 c]) ∧ Below w.heap.size w w'
 len_bad : ∀ {a : Rn} {c : Int} (w : World), I w → a.In → chkR a = c → ¬ c = 0 → Calls Tryz.prog 25 #[.agg #[.int .i8 a.f, .int .i64 a.d, .int .i8 a.g, .int .i64 a.e]] w fun z w' => z = .returned (.tuple #[.int .i64 0, .int .i64 c]) ∧ Below w.heap.size w w'
 shift_ok : ∀ {a s : Rn} {k c : Int} (w : World), I w → a.In → chkR a = 0 → -9223372036854775808 ≤ k → k ≤ 9223372036854775807 → MoveR a k s c → Calls Tryz.prog 26 #[.agg #[.int .i8 a.f, .int .i64 a.d, .int .i8 a.g, .int .i64 a.e], .int .i64 k] w fun z w' => z = .returned (.tuple #[.agg #[.int .i8 s.f, .int .i64 s.d, .int .i8 s.g, .int .i64 s.e], .int .i64 c]) ∧ Below w.heap.size w w'
 shift_bad : ∀ {a : Rn} {k c : Int} (w : World), I w → a.In → chkR a = c → ¬ c = 0 → -9223372036854775808 ≤ k → k ≤ 9223372036854775807 → Calls Tryz.prog 26 #[.agg #[.int .i8 a.f, .int .i64 a.d, .int .i8 a.g, .int .i64 a.e], .int .i64 k] w fun z w' => z = .returned (.tuple #[.agg #[.int .i8 0, .int .i64 0, .int .i8 0, .int .i64 0], .int .i64 c]) ∧ Below w.heap.size w w'
 parse : ∀ {l : List UInt8} {v : Rn} {c : Int} (w : World), I w → l.length ≤ 130 → ParR l v c → Calls Tryz.prog 33 #[.string (bs l)] w fun z w' => z = .returned (.tuple #[.agg #[.int .i8 v.f, .int .i64 v.d, .int .i8 v.g, .int .i64 v.e], .int .i64 c]) ∧ Below w.heap.size w w'
structure RunFnsA (I : World → Prop) : Prop extends RunCoreA I where
 lives : ∀ (w : World), I w → Calls Tryz.prog 24 #[] w fun e w' => e = .returned (.bool true) ∧ Below w.heap.size w w'
theorem gives_ok (r : Rn) (w : World) :
 Calls Tryz.prog 28 #[.agg #[.int .i8 r.f, .int .i64 r.d, .int .i8 r.g, .int .i64 r.e], .int .i64 0, .agg #[.int .i8 r.f, .int .i64 r.d, .int .i8 r.g, .int .i64 r.e], .int .i64 0] w fun e w' => e = .returned (.bool true) ∧ Below w.heap.size w w' := by
 have HB := Kp.mk (((Below.refl w.heap.size w).alloc (Nat.le_refl _) (.cells #[.int .i8 r.f, .int .i64 r.d, .int .i8 r.g, .int .i64 r.e] 26)).alloc (by simp) (.cells #[.int .i8 r.f, .int .i64 r.d, .int .i8 r.g, .int .i64 r.e] 26))
 go_enter Tryz.func28, Tryz.ntmps28
 go_wp2_with fail
 go_ret
 exact ⟨rfl, HB.out⟩
theorem gives_bad {c : Int} (h : ¬ c = 0) (v : Rn) (w : World) :
 Calls Tryz.prog 28 #[.agg #[.int .i8 0, .int .i64 0, .int .i8 0, .int .i64 0], .int .i64 c, .agg #[.int .i8 v.f, .int .i64 v.d, .int .i8 v.g, .int .i64 v.e], .int .i64 c] w fun e w' => e = .returned (.bool true) ∧ Below w.heap.size w w' := by
 have HB := Kp.mk (((Below.refl w.heap.size w).alloc (Nat.le_refl _) (.cells #[.int .i8 0, .int .i64 0, .int .i8 0, .int .i64 0] 26)).alloc (by simp) (.cells #[.int .i8 v.f, .int .i64 v.d, .int .i8 v.g, .int .i64 v.e] 26))
 have t : (c != 0) = true := by rw [bne_iff_ne]; exact h
 clear h
 go_enter Tryz.func28, Tryz.ntmps28
 go_wp2_with fail
 go_ret
 exact ⟨rfl, HB.out⟩
/-- what is refused is the zero run -/
theorem gives_law {r : Rn} {c : Int} (h : ¬ c = 0 → r = zeroR) (w : World) :
 Calls Tryz.prog 28 #[.agg #[.int .i8 r.f, .int .i64 r.d, .int .i8 r.g, .int .i64 r.e], .int .i64 c, .agg #[.int .i8 r.f, .int .i64 r.d, .int .i8 r.g, .int .i64 r.e], .int .i64 c] w fun e w' => e = .returned (.bool true) ∧ Below w.heap.size w w' := by
 by_cases h0 : c = 0
 ·subst h0; exact gives_ok r w
 ·obtain rfl := h h0; exact gives_bad h0 zeroR w
theorem found_yes (r : Rn) (w : World) :
 Calls Tryz.prog 17 #[.agg #[.int .i8 r.f, .int .i64 r.d, .int .i8 r.g, .int .i64 r.e], .bool true, .agg #[.int .i8 r.f, .int .i64 r.d, .int .i8 r.g, .int .i64 r.e], .bool true] w fun e w' => e = .returned (.bool true) ∧ Below w.heap.size w w' := by
 have HB := Kp.mk (((Below.refl w.heap.size w).alloc (Nat.le_refl _) (.cells #[.int .i8 r.f, .int .i64 r.d, .int .i8 r.g, .int .i64 r.e] 26)).alloc (by simp) (.cells #[.int .i8 r.f, .int .i64 r.d, .int .i8 r.g, .int .i64 r.e] 26))
 go_enter Tryz.func17, Tryz.ntmps17
 go_wp2_with fail
 go_ret
 exact ⟨rfl, HB.out⟩
theorem found_no (v : Rn) (w : World) :
 Calls Tryz.prog 17 #[.agg #[.int .i8 0, .int .i64 0, .int .i8 0, .int .i64 0], .bool false, .agg #[.int .i8 v.f, .int .i64 v.d, .int .i8 v.g, .int .i64 v.e], .bool false] w fun e w' => e = .returned (.bool true) ∧ Below w.heap.size w w' := by
 have HB := Kp.mk (((Below.refl w.heap.size w).alloc (Nat.le_refl _) (.cells #[.int .i8 0, .int .i64 0, .int .i8 0, .int .i64 0] 26)).alloc (by simp) (.cells #[.int .i8 v.f, .int .i64 v.d, .int .i8 v.g, .int .i64 v.e] 26))
 go_enter Tryz.func17, Tryz.ntmps17
 go_wp2_with fail
 go_ret
 exact ⟨rfl, HB.out⟩
theorem days_is (x y : Int) (w : World) :
 Calls Tryz.prog 29 #[.int .i64 x, .int .i64 y] w fun e w' => e = .returned (.agg #[.int .i8 0, .int .i64 x, .int .i8 0, .int .i64 y]) ∧ Below w.heap.size w w' := by
 go_enter Tryz.func29, Tryz.ntmps29
 go_wp2_with fail
 refine bodyPost_ret (results_cell_row (p := 4) (ty := 26) rfl _ _ w.heap.size 26 #[.int .i8 0, .int .i64 x, .int .i8 0, .int .i64 y] (0, 0) _ rfl (heap_alloc_new _ _) Tryz.underlying26 rfl infoRn) rfl ?_
 exact ⟨rfl, (Below.refl w.heap.size w).alloc (Nat.le_refl _) _⟩
end Go.Proofs.YteddfolhpoikcaaGreatDoor
namespace Go.Proofs.YteddfolhpoikcaaGreatDoor
open Go.RowKit
set_option maxRecDepth 100000

/-- what package runs gives -/
structure RunCore (I : World → Prop) : Prop extends RunCoreA I where
 of_ok : ∀ {x y : Int} (w : World), I w → -9223372036854775808 ≤ x → x ≤ 9223372036854775807 → -9223372036854775808 ≤ y → y ≤ 9223372036854775807 → x ≤ y → Calls Tryz.prog 27 #[.int .i64 x, .int .i64 y] w fun z w' => z = .returned (.tuple #[.agg #[.int .i8 0, .int .i64 x, .int .i8 0, .int .i64 y], .int .i64 0]) ∧ Below w.heap.size w w'
 of_bad : ∀ {x y : Int} (w : World), I w → -9223372036854775808 ≤ x → x ≤ 9223372036854775807 → -9223372036854775808 ≤ y → y ≤ 9223372036854775807 → ¬ x ≤ y → Calls Tryz.prog 27 #[.int .i64 x, .int .i64 y] w fun z w' => z = .returned (.tuple #[.agg #[.int .i8 0, .int .i64 0, .int .i8 0, .int .i64 0], .int .i64 12]) ∧ Below w.heap.size w w'
 cmp : ∀ {a b : Rn} {v : Int} (w : World), I w → a.In → b.In → cmpR a b = v → Calls Tryz.prog 10 #[.agg #[.int .i8 a.f, .int .i64 a.d, .int .i8 a.g, .int .i64 a.e], .agg #[.int .i8 b.f, .int .i64 b.d, .int .i8 b.g, .int .i64 b.e]] w fun z w' => z = .returned (.int .i64 v) ∧ Below w.heap.size w w'
 text_ok : ∀ {a : Rn} (w : World), I w → a.In → chkR a = 0 → Calls Tryz.prog 32 #[.agg #[.int .i8 a.f, .int .i64 a.d, .int .i8 a.g, .int .i64 a.e]] w fun z w' => z = .returned (.tuple #[.string (bs (textR a)), .int .i64 0]) ∧ Below w.heap.size w w'
 text_bad : ∀ {a : Rn} {c : Int} (w : World), I w → a.In → chkR a = c → ¬ c = 0 → Calls Tryz.prog 32 #[.agg #[.int .i8 a.f, .int .i64 a.d, .int .i8 a.g, .int .i64 a.e]] w fun z w' => z = .returned (.tuple #[.string ⟨#[]⟩, .int .i64 c]) ∧ Below w.heap.size w w'
structure RunFns (I : World → Prop) : Prop extends RunCore I where
 lives : ∀ (w : World), I w → Calls Tryz.prog 24 #[] w fun e w' => e = .returned (.bool true) ∧ Below w.heap.size w w'
theorem RunFns.a {I : World → Prop} (C : RunFns I) : RunFnsA I := { C.toRunCoreA with lives := C.lives }
end Go.Proofs.YteddfolhpoikcaaGreatDoor
