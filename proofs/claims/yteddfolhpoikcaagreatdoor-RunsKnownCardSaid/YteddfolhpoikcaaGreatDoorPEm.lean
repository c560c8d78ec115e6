/-
 DERIVED. The map of the infinities' texts: made, asked, ranged over.
 DERIVED. CONTRACT of package ends: infinities: the map is a new block; its entries lie in either order.
-/
import Derived.Test.YteddfolhpoikcaaGreatDoorPRg
import Derived.Test.YteddfolhpoikcaaGreatDoorPOp
import Derived.Maps.RangeRun
import Derived.DeepKeys4
import Derived.Test.YteddfolhpoikcaaGreatDoorPEnDev
namespace Go.Proofs.YteddfolhpoikcaaGreatDoor
open Go.RowKit
open Go.ChangeMaps (setBlock)
set_option maxRecDepth 100000

abbrev kEnd (f d : Int) : Value := .agg #[.int .i8 f, .int .i64 d]
abbrev vMin : Value := .string ⟨#[45, 105, 110, 102]⟩
abbrev vMax : Value := .string ⟨#[105, 110, 102]⟩
abbrev eMin (n : Nat) : MapEntry := { key := kEnd (-1) 0, val := vMin, born := n }
abbrev eMax (n : Nat) : MapEntry := { key := kEnd 1 0, val := vMax, born := n }
/-- the map's entries, in either order -/
def Tb (es : Array MapEntry) : Prop := es = #[eMin 0, eMax 1] ∨ es = #[eMax 0, eMin 1]

theorem keyOf_two {P : Program} {k a b : TypeId} {x y : Field} {qa qb : IntKind} {n : Nat} {u v : Int} (hn : P.types.size + 1 = n + 2) (hk : P.keyType k = true) (hu : P.underlying k = some (.struct #[x, y])) (hx : x.name ≠ "_") (hy : y.name ≠ "_")
 (tx : x.type = a) (ty : y.type = b) (ox : x.offset = 0) (oy : y.offset = 1) (ha : P.underlying a = some (.int qa)) (hb : P.underlying b = some (.int qb)) (c1 : P.cellsOf a = 1) (c2 : P.cellsOf b = 1) (c3 : P.cellsOf k = 2)
 (wu : (Lit.int qa u).wf = true) (wv : (Lit.int qb v).wf = true) : ∃ l, keyOf P k (.agg #[.int qa u, .int qb v]) = some l := by
 apply Option.isSome_iff_exists.1
 unfold keyOf
 rw [hu, hk, hn]
 simp [Program.keyLits, Value.formed, hu, ha, hb, c1, c2, c3, Value.cells, wu, wv, tx, ty, ox, oy, hx, hy]
theorem lawEnd : WideMaps.KeyLaw Tryz.prog 24 := deep_law_laid (m := 5) laidOutEn (by decide) (of_decide_eq_true (by kernel_rfl)) (by kernel_rfl) (by kernel_rfl)
theorem key_any {f d : Int} (hf : -128 ≤ f) (hf' : f ≤ 127) (hd : -9223372036854775808 ≤ d) (hd' : d ≤ 9223372036854775807) : ∃ l, keyOf Tryz.prog 24 (kEnd f d) = some l :=
 keyOf_two (n := Tryz.prog.types.size - 1) (by kernel_rfl) (by kernel_rfl) Tryz.underlying24 (by decide) (by decide) rfl rfl rfl rfl Tryz.underlying22 Tryz.underlying2 (by kernel_rfl) (by kernel_rfl) (by kernel_rfl)
  (by simp [Lit.wf, IntKind.min, IntKind.max, IntKind.signed, IntKind.bits]; omega) (by simp [Lit.wf, IntKind.min, IntKind.max, IntKind.signed, IntKind.bits]; omega)

/-- a new key is put into a map that is a new block -/
theorem ins_new {es : Array MapEntry} {c n : Nat} {key val : Value} {lk : Lit} (w : World) (hn : w.heap.size = n) (hk : keyOf Tryz.prog 24 key = some lk)
 (hes : ∀ e ∈ es.toList, (∃ l, keyOf Tryz.prog 24 e.key = some l) ∧ e.key ≠ key) :
 (Instr.mapUpdate 108 (.map (some n)) key val).run Tryz.prog (w.alloc (.map es c)) = .ok () (w.alloc (.map (es.push { key, val, born := c }) (c + 1))) := by
 subst hn
 have hb : (w.alloc (.map es c)).heap[w.heap.size]? = some (.map es c) := heap_alloc_new w _
 have hc := lawEnd.check (w.alloc (.map es c)) false hk
 have hf : (Instr.findKey 24 key es.toList).run Tryz.prog (w.alloc (.map es c)) = .ok none (w.alloc (.map es c)) := by
  rcases lawEnd.find (w.alloc (.map es c)) hk es.toList (fun e he => (hes e he).1) with ⟨h, _⟩ | ⟨j, e, _, hj, he⟩
  ·exact h
  ·exact absurd he (hes e (List.mem_of_getElem? hj)).2
 have hp : ∀ (h : Array Obj) (x y : Obj), (h.push x).setIfInBounds h.size y = h.push y := by
  intro h x y
  apply Array.toList_inj.1
  simp
 simp only [Instr.mapUpdate, Sem.run_bind, run_underlying Tryz.underlying108, Result.andThen, MapKept.run_getObj_map hb, hc, hf]
 simp only [setObj, Sem.run, hb]
 show Result.ok () ({ w.alloc (.map es c) with heap := (w.heap.push (.map es c)).setIfInBounds w.heap.size _ } : World) = _
 rw [hp]
 rfl

/-- the text of an end is looked up -/
theorem look_is {es : Array MapEntry} {c r : Nat} {key : Value} {lk : Lit} (w : World) (hes : Tb es) (hb : w.heap[r]? = some (.map es c)) (hk : keyOf Tryz.prog 24 key = some lk) :
 (key = kEnd (-1) 0 → (Instr.lookup 108 (.map (some r)) key true).run Tryz.prog w = .ok (.tuple #[vMin, .bool true]) w) ∧
 (key = kEnd 1 0 → (Instr.lookup 108 (.map (some r)) key true).run Tryz.prog w = .ok (.tuple #[vMax, .bool true]) w) ∧
 (key ≠ kEnd (-1) 0 → key ≠ kEnd 1 0 → (Instr.lookup 108 (.map (some r)) key true).run Tryz.prog w = .ok (.tuple #[.string ⟨#[]⟩, .bool false]) w) := by
 have hkeys : ∀ e ∈ es.toList, ∃ l, keyOf Tryz.prog 24 e.key = some l := by
  intro e he
  rcases hes with rfl | rfl <;> simp at he <;> rcases he with rfl | rfl <;> exact key_any (by decide) (by decide) (by decide) (by decide)
 have hz : (zeroValue 9).run Tryz.prog w = .ok (.string ⟨#[]⟩) w := by kernel_rfl
 have hc := lawEnd.check w es.isEmpty hk
 have hval : ∀ e ∈ es.toList, (e.key = kEnd (-1) 0 ∧ e.val = vMin) ∨ (e.key = kEnd 1 0 ∧ e.val = vMax) := by
  intro e he
  rcases hes with rfl | rfl <;> simp at he <;> rcases he with rfl | rfl <;> simp
 have hin : (∃ e ∈ es.toList, e.key = kEnd (-1) 0) ∧ (∃ e ∈ es.toList, e.key = kEnd 1 0) := by
  rcases hes with rfl | rfl <;> simp
 have hd : kEnd (-1) 0 ≠ kEnd 1 0 := by simp
 have run : ∀ a, (Instr.findKey 24 key es.toList).run Tryz.prog w = .ok a w → (Instr.lookup 108 (.map (some r)) key true).run Tryz.prog w = .ok (match a with | some (_, v) => .tuple #[v, .bool true] | none => .tuple #[.string ⟨#[]⟩, .bool false]) w := by
  intro a ha
  cases a with
  | none => simp [Instr.lookup, run_underlying Tryz.underlying108, Result.andThen, MapKept.run_getObj_map hb, hc, ha, hz]
  | some q => simp [Instr.lookup, run_underlying Tryz.underlying108, Result.andThen, MapKept.run_getObj_map hb, hc, ha]
 rcases lawEnd.find w hk es.toList hkeys with ⟨h, hno⟩ | ⟨j, e, h, hj, he⟩
 ·have hr := run _ h
  refine ⟨fun h1 => ?_, fun h1 => ?_, fun _ _ => hr⟩
  ·obtain ⟨e, he, hh⟩ := hin.1; exact absurd (hh.trans h1.symm) (hno e he)
  ·obtain ⟨e, he, hh⟩ := hin.2; exact absurd (hh.trans h1.symm) (hno e he)
 ·have hr := run _ h
  rcases hval e (List.mem_of_getElem? hj) with ⟨h1, h2⟩ | ⟨h1, h2⟩
  ·rw [h2] at hr
   refine ⟨fun _ => hr, fun h3 => absurd (h1.symm.trans (he.trans h3)) hd, fun h3 => absurd (he.symm.trans h1) h3⟩
  ·rw [h2] at hr
   refine ⟨fun h3 => absurd ((h1.symm.trans (he.trans h3)).symm) hd, fun _ => hr, fun _ h3 => absurd (he.symm.trans h1) h3⟩
end Go.Proofs.YteddfolhpoikcaaGreatDoor
namespace Go.Proofs.YteddfolhpoikcaaGreatDoor
open Go.RowKit
set_option maxRecDepth 100000

/-- what infinities returns -/
def TbAt (w : World) (e : Ending) (w' : World) : Prop := ∃ r es, e = .returned (.map (some r)) ∧ Tb es ∧ w.heap.size ≤ r ∧ w'.heap[r]? = some (.map es 2) ∧ Below w.heap.size w w'
theorem tb_new {w w0 : World} {n : Nat} {es : Array MapEntry} (hn : w0.heap.size = n) (h : Tb es) (hB : Below w.heap.size w w0) : TbAt w (.returned (.map (some n))) (w0.alloc (.map es 2)) :=
 ⟨n, es, rfl, h, hn ▸ hB.size, by subst hn; exact heap_alloc_new _ _, hB.alloc hB.size _⟩
set_option maxHeartbeats 4000000 in
theorem infs_is (w : World) (hL : LaidEn w) :
 Calls Tryz.prog 77 #[] w (TbAt w) := by
 have HD := Kp.mk (Below.refl w.heap.size w).drew
 have m0 := hL.m0
 have m1 := hL.m1
 have g0 := hL.g0
 have g1 := hL.g1
 have n0 : ∀ o, (w.alloc o).cell? ⟨0, 0, none⟩ = some (.int .i8 (-1)) := fun o => (hL.below ((Below.refl w.heap.size w).alloc (Nat.le_refl _) o)).m0
 have n1 : ∀ o, (w.alloc o).cell? ⟨0, 1, none⟩ = some (.int .i64 0) := fun o => (hL.below ((Below.refl w.heap.size w).alloc (Nat.le_refl _) o)).m1
 have n2 : ∀ o, (w.alloc o).cell? ⟨1, 0, none⟩ = some (.int .i8 1) := fun o => (hL.below ((Below.refl w.heap.size w).alloc (Nat.le_refl _) o)).g0
 have n3 : ∀ o, (w.alloc o).cell? ⟨1, 1, none⟩ = some (.int .i64 0) := fun o => (hL.below ((Below.refl w.heap.size w).alloc (Nat.le_refl _) o)).g1
 obtain ⟨l0, hl0⟩ := key_any (f := -1) (d := 0) (by decide) (by decide) (by decide) (by decide)
 obtain ⟨l1, hl1⟩ := key_any (f := 1) (d := 0) (by decide) (by decide) (by decide) (by decide)
 have i0 : ∀ v : World, (Instr.mapUpdate 108 (.map (some v.heap.size)) (kEnd (-1) 0) vMin).run Tryz.prog (v.alloc (.map #[] 0)).drew = .ok () (v.alloc (.map #[eMin 0] 1)).drew := fun v => ins_new v.drew rfl hl0 (by simp)
 have i1 : ∀ v : World, (Instr.mapUpdate 108 (.map (some v.heap.size)) (kEnd 1 0) vMax).run Tryz.prog (v.alloc (.map #[] 0)).drew = .ok () (v.alloc (.map #[eMax 0] 1)).drew := fun v => ins_new v.drew rfl hl1 (by simp)
 have i2 : ∀ v : World, (Instr.mapUpdate 108 (.map (some v.heap.size)) (kEnd 1 0) vMax).run Tryz.prog (v.alloc (.map #[eMin 0] 1)).drew = .ok () (v.alloc (.map #[eMin 0, eMax 1] 2)).drew := fun v => ins_new v.drew rfl hl1 (by intro e he; simp at he; subst he; exact ⟨⟨_, hl0⟩, by simp⟩)
 have i3 : ∀ v : World, (Instr.mapUpdate 108 (.map (some v.heap.size)) (kEnd (-1) 0) vMin).run Tryz.prog (v.alloc (.map #[eMax 0] 1)).drew = .ok () (v.alloc (.map #[eMax 0, eMin 1] 2)).drew := fun v => ins_new v.drew rfl hl0 (by intro e he; simp at he; subst he; exact ⟨⟨_, hl1⟩, by simp⟩)
 have hmm := @run_makeMap Tryz.prog
 clear hL hl0 hl1
 go_enter Tryz.func77, Tryz.ntmps77
 go_wp2_with fail
 go_region
 ·go_wp2_with fail
  go_ret
  exact tb_new (w0 := w.drew) rfl (.inl rfl) HD.out
 ·go_wp2_with fail
  go_ret
  exact tb_new (w0 := w.drew) rfl (.inr rfl) HD.out
end Go.Proofs.YteddfolhpoikcaaGreatDoor
