/-
 DERIVED. ARGUMENTS OF TYPE api.End, BY VALUE, OPENED: their numbers.
 DERIVED. The map of the infinities' texts: made, asked, ranged over.
 DERIVED. CONTRACT of package ends: infinities: the map is a new block; its entries lie in either order.
 DERIVED. CONTRACT of package ends: Text. Written by mken9.py.
 DERIVED. CONTRACT of package ends: Parse: a range over the map of texts, in whatever order.
-/
import Derived.Test.YtndjcmclmhoigaaGreatDoorRows
import Derived.Test.YtndjcmclmhoigaaGreatDoorPA1
import Derived.ProofKit
import Derived.OpenShut
import Derived.Carry
import Derived.Lay
import Derived.Lib.LaidTab
import Derived.Lib.SmallJoins
import Derived.Deep.Strs
import Derived.LaidMore
import Derived.SevenTiedAt
import Derived.Stop.Joined
import Derived.Test.YtndjcmclmhoigaaGreatDoorPA3
import Derived.Maps.RangeRun
import Derived.DeepKeys4
import Derived.Test.YtndjcmclmhoigaaGreatDoorPB6
namespace Go.Proofs.YtndjcmclmhoigaaGreatDoor
open Go.ChangeShapes Go.WideShapes Go.ChangeAt Go.RowKit
set_option maxRecDepth 100000
theorem laidOutEn : laidOutB Tryz.prog = true := by kernel_rfl
theorem cells_en64 : Tryz.prog.cellsOf 2 = 1 := by kernel_rfl
theorem cells_en8 : Tryz.prog.cellsOf 22 = 1 := by kernel_rfl
theorem cells_End : Tryz.prog.cellsOf 24 = 2 := by kernel_rfl
theorem i64_wfEn {n : Int} (h : (Lit.int .i64 n).wf = true) : -9223372036854775808 ≤ n ∧ n ≤ 9223372036854775807 := by
 simpa [Lit.wf, IntKind.min, IntKind.max, IntKind.signed, IntKind.bits] using h
theorem end_of {H : Type} {enc : TypeId × Value → H} {w : World} {base : Nat} {sp : Nat → Bool} {held : Bool} {fuel : Nat} {c0 c1 : Value} {y : DataW H × List MemPlace}
 (h : DataW.trod enc Tryz.prog w base sp held fuel 24 [c0, c1] = some y) : ∃ f d, c0 = .int .i8 f ∧ c1 = .int .i64 d ∧ (-9223372036854775808 ≤ d ∧ d ≤ 9223372036854775807) := by
 obtain ⟨y0, y1, n, _, _, h0, h1⟩ := trod_struct2 Tryz.underlying24 h
 simp only [cells_en64, cells_en8] at h0 h1
 obtain ⟨a, e0, _, _⟩ := DataW.trod_int Tryz.underlying22 h0
 obtain ⟨b, e1, _, w1⟩ := DataW.trod_int Tryz.underlying2 h1
 simp at e0 e1
 exact ⟨a, b, e0, e1, i64_wfEn w1⟩
end Go.Proofs.YtndjcmclmhoigaaGreatDoor
namespace Go.Proofs.YtndjcmclmhoigaaGreatDoor
open Go.RowKit
open Go.ChangeMaps (setBlock)
set_option maxRecDepth 100000

abbrev kEnd (f d : Int) : Value := .agg #[.int .i8 f, .int .i64 d]
abbrev vMin : Value := .string ⟨#[45, 105, 110, 102]⟩
abbrev vMax : Value := .string ⟨#[105, 110, 102]⟩
abbrev eMin (n : Nat) : MapEntry := { key := kEnd (-1) 0, val := vMin, born := n }
abbrev eMax (n : Nat) : MapEntry := { key := kEnd 1 0, val := vMax, born := n }
/-- the map's entries, in either order -/
def Tb (es : Array MapEntry) : Prop := es = #[eMin 0, eMax 1] ∨ es = #[eMax 0, eMin 1]

theorem keyOf_two {P : Program} {k a b : TypeId} {x y : Field} {qa qb : IntKind} {n : Nat} {u v : Int} (hn : P.types.size + 1 = n + 2) (hk : P.keyType k = true) (hu : P.underlying k = some (.struct #[x, y])) (hx : x.name ≠ "_") (hy : y.name ≠ "_")
 (tx : x.type = a) (ty : y.type = b) (ox : x.offset = 0) (oy : y.offset = 1) (ha : P.underlying a = some (.int qa)) (hb : P.underlying b = some (.int qb)) (c1 : P.cellsOf a = 1) (c2 : P.cellsOf b = 1) (c3 : P.cellsOf k = 2)
 (wu : (Lit.int qa u).wf = true) (wv : (Lit.int qb v).wf = true) : ∃ l, keyOf P k (.agg #[.int qa u, .int qb v]) = some l := by
 apply Option.isSome_iff_exists.1
 unfold keyOf
 rw [hu, hk, hn]
 simp [Program.keyLits, Value.formed, hu, ha, hb, c1, c2, c3, Value.cells, wu, wv, tx, ty, ox, oy, hx, hy]
theorem lawEnd : WideMaps.KeyLaw Tryz.prog 24 := deep_law_laid (m := 5) laidOutEn (by decide) (of_decide_eq_true (by kernel_rfl)) (by kernel_rfl) (by kernel_rfl)
theorem key_any {f d : Int} (hf : -128 ≤ f) (hf' : f ≤ 127) (hd : -9223372036854775808 ≤ d) (hd' : d ≤ 9223372036854775807) : ∃ l, keyOf Tryz.prog 24 (kEnd f d) = some l :=
 keyOf_two (n := Tryz.prog.types.size - 1) (by kernel_rfl) (by kernel_rfl) Tryz.underlying24 (by decide) (by decide) rfl rfl rfl rfl Tryz.underlying22 Tryz.underlying2 (by kernel_rfl) (by kernel_rfl) (by kernel_rfl)
  (by simp [Lit.wf, IntKind.min, IntKind.max, IntKind.signed, IntKind.bits]; omega) (by simp [Lit.wf, IntKind.min, IntKind.max, IntKind.signed, IntKind.bits]; omega)

/-- a new key is put into a map that is a new block -/
theorem ins_new {es : Array MapEntry} {c n : Nat} {key val : Value} {lk : Lit} (w : World) (hn : w.heap.size = n) (hk : keyOf Tryz.prog 24 key = some lk)
 (hes : ∀ e ∈ es.toList, (∃ l, keyOf Tryz.prog 24 e.key = some l) ∧ e.key ≠ key) :
 (Instr.mapUpdate 162 (.map (some n)) key val).run Tryz.prog (w.alloc (.map es c)) = .ok () (w.alloc (.map (es.push { key, val, born := c }) (c + 1))) := by
 subst hn
 have hb : (w.alloc (.map es c)).heap[w.heap.size]? = some (.map es c) := heap_alloc_new w _
 have hc := lawEnd.check (w.alloc (.map es c)) false hk
 have hf : (Instr.findKey 24 key es.toList).run Tryz.prog (w.alloc (.map es c)) = .ok none (w.alloc (.map es c)) := by
  rcases lawEnd.find (w.alloc (.map es c)) hk es.toList (fun e he => (hes e he).1) with ⟨h, _⟩ | ⟨j, e, _, hj, he⟩
  ·exact h
  ·exact absurd he (hes e (List.mem_of_getElem? hj)).2
 have hp : ∀ (h : Array Obj) (x y : Obj), (h.push x).setIfInBounds h.size y = h.push y := by
  intro h x y
  apply Array.toList_inj.1
  simp
 simp only [Instr.mapUpdate, Sem.run_bind, run_underlying Tryz.underlying162, Result.andThen, MapKept.run_getObj_map hb, hc, hf]
 simp only [setObj, Sem.run, hb]
 show Result.ok () ({ w.alloc (.map es c) with heap := (w.heap.push (.map es c)).setIfInBounds w.heap.size _ } : World) = _
 rw [hp]
 rfl

/-- the text of an end is looked up -/
theorem look_is {es : Array MapEntry} {c r : Nat} {key : Value} {lk : Lit} (w : World) (hes : Tb es) (hb : w.heap[r]? = some (.map es c)) (hk : keyOf Tryz.prog 24 key = some lk) :
 (key = kEnd (-1) 0 → (Instr.lookup 162 (.map (some r)) key true).run Tryz.prog w = .ok (.tuple #[vMin, .bool true]) w) ∧
 (key = kEnd 1 0 → (Instr.lookup 162 (.map (some r)) key true).run Tryz.prog w = .ok (.tuple #[vMax, .bool true]) w) ∧
 (key ≠ kEnd (-1) 0 → key ≠ kEnd 1 0 → (Instr.lookup 162 (.map (some r)) key true).run Tryz.prog w = .ok (.tuple #[.string ⟨#[]⟩, .bool false]) w) := by
 have hkeys : ∀ e ∈ es.toList, ∃ l, keyOf Tryz.prog 24 e.key = some l := by
  intro e he
  rcases hes with rfl | rfl <;> simp at he <;> rcases he with rfl | rfl <;> exact key_any (by decide) (by decide) (by decide) (by decide)
 have hz : (zeroValue 9).run Tryz.prog w = .ok (.string ⟨#[]⟩) w := by kernel_rfl
 have hc := lawEnd.check w es.isEmpty hk
 have hval : ∀ e ∈ es.toList, (e.key = kEnd (-1) 0 ∧ e.val = vMin) ∨ (e.key = kEnd 1 0 ∧ e.val = vMax) := by
  intro e he
  rcases hes with rfl | rfl <;> simp at he <;> rcases he with rfl | rfl <;> simp
 have hin : (∃ e ∈ es.toList, e.key = kEnd (-1) 0) ∧ (∃ e ∈ es.toList, e.key = kEnd 1 0) := by
  rcases hes with rfl | rfl <;> simp
 have hd : kEnd (-1) 0 ≠ kEnd 1 0 := by simp
 have run : ∀ a, (Instr.findKey 24 key es.toList).run Tryz.prog w = .ok a w → (Instr.lookup 162 (.map (some r)) key true).run Tryz.prog w = .ok (match a with | some (_, v) => .tuple #[v, .bool true] | none => .tuple #[.string ⟨#[]⟩, .bool false]) w := by
  intro a ha
  cases a with
  | none => simp [Instr.lookup, run_underlying Tryz.underlying162, Result.andThen, MapKept.run_getObj_map hb, hc, ha, hz]
  | some q => simp [Instr.lookup, run_underlying Tryz.underlying162, Result.andThen, MapKept.run_getObj_map hb, hc, ha]
 rcases lawEnd.find w hk es.toList hkeys with ⟨h, hno⟩ | ⟨j, e, h, hj, he⟩
 ·have hr := run _ h
  refine ⟨fun h1 => ?_, fun h1 => ?_, fun _ _ => hr⟩
  ·obtain ⟨e, he, hh⟩ := hin.1; exact absurd (hh.trans h1.symm) (hno e he)
  ·obtain ⟨e, he, hh⟩ := hin.2; exact absurd (hh.trans h1.symm) (hno e he)
 ·have hr := run _ h
  rcases hval e (List.mem_of_getElem? hj) with ⟨h1, h2⟩ | ⟨h1, h2⟩
  ·rw [h2] at hr
   refine ⟨fun _ => hr, fun h3 => absurd (h1.symm.trans (he.trans h3)) hd, fun h3 => absurd (he.symm.trans h1) h3⟩
  ·rw [h2] at hr
   refine ⟨fun h3 => absurd ((h1.symm.trans (he.trans h3)).symm) hd, fun _ => hr, fun _ h3 => absurd (he.symm.trans h1) h3⟩
end Go.Proofs.YtndjcmclmhoigaaGreatDoor
namespace Go.Proofs.YtndjcmclmhoigaaGreatDoor
open Go.RowKit
set_option maxRecDepth 100000

/-- what infinities returns -/
def TbAt (w : World) (e : Ending) (w' : World) : Prop := ∃ r es, e = .returned (.map (some r)) ∧ Tb es ∧ w.heap.size ≤ r ∧ w'.heap[r]? = some (.map es 2) ∧ Below w.heap.size w w'
theorem tb_new {w w0 : World} {n : Nat} {es : Array MapEntry} (hn : w0.heap.size = n) (h : Tb es) (hB : Below w.heap.size w w0) : TbAt w (.returned (.map (some n))) (w0.alloc (.map es 2)) :=
 ⟨n, es, rfl, h, hn ▸ hB.size, by subst hn; exact heap_alloc_new _ _, hB.alloc hB.size _⟩
set_option maxHeartbeats 4000000 in
theorem infs_is (w : World) (hL : LaidEn w) :
 Calls Tryz.prog 137 #[] w (TbAt w) := by
 have HD := Kp.mk (Below.refl w.heap.size w).drew
 have m0 := hL.m0
 have m1 := hL.m1
 have g0 := hL.g0
 have g1 := hL.g1
 have n0 : ∀ o, (w.alloc o).cell? ⟨2, 0, none⟩ = some (.int .i8 (-1)) := fun o => (hL.below ((Below.refl w.heap.size w).alloc (Nat.le_refl _) o)).m0
 have n1 : ∀ o, (w.alloc o).cell? ⟨2, 1, none⟩ = some (.int .i64 0) := fun o => (hL.below ((Below.refl w.heap.size w).alloc (Nat.le_refl _) o)).m1
 have n2 : ∀ o, (w.alloc o).cell? ⟨3, 0, none⟩ = some (.int .i8 1) := fun o => (hL.below ((Below.refl w.heap.size w).alloc (Nat.le_refl _) o)).g0
 have n3 : ∀ o, (w.alloc o).cell? ⟨3, 1, none⟩ = some (.int .i64 0) := fun o => (hL.below ((Below.refl w.heap.size w).alloc (Nat.le_refl _) o)).g1
 obtain ⟨l0, hl0⟩ := key_any (f := -1) (d := 0) (by decide) (by decide) (by decide) (by decide)
 obtain ⟨l1, hl1⟩ := key_any (f := 1) (d := 0) (by decide) (by decide) (by decide) (by decide)
 have i0 : ∀ v : World, (Instr.mapUpdate 162 (.map (some v.heap.size)) (kEnd (-1) 0) vMin).run Tryz.prog (v.alloc (.map #[] 0)).drew = .ok () (v.alloc (.map #[eMin 0] 1)).drew := fun v => ins_new v.drew rfl hl0 (by simp)
 have i1 : ∀ v : World, (Instr.mapUpdate 162 (.map (some v.heap.size)) (kEnd 1 0) vMax).run Tryz.prog (v.alloc (.map #[] 0)).drew = .ok () (v.alloc (.map #[eMax 0] 1)).drew := fun v => ins_new v.drew rfl hl1 (by simp)
 have i2 : ∀ v : World, (Instr.mapUpdate 162 (.map (some v.heap.size)) (kEnd 1 0) vMax).run Tryz.prog (v.alloc (.map #[eMin 0] 1)).drew = .ok () (v.alloc (.map #[eMin 0, eMax 1] 2)).drew := fun v => ins_new v.drew rfl hl1 (by intro e he; simp at he; subst he; exact ⟨⟨_, hl0⟩, by simp⟩)
 have i3 : ∀ v : World, (Instr.mapUpdate 162 (.map (some v.heap.size)) (kEnd (-1) 0) vMin).run Tryz.prog (v.alloc (.map #[eMax 0] 1)).drew = .ok () (v.alloc (.map #[eMax 0, eMin 1] 2)).drew := fun v => ins_new v.drew rfl hl0 (by intro e he; simp at he; subst he; exact ⟨⟨_, hl1⟩, by simp⟩)
 have hmm := @run_makeMap Tryz.prog
 clear hL hl0 hl1
 go_enter Tryz.func137, Tryz.ntmps137
 go_wp2_with fail
 go_region
 ·go_wp2_with fail
  go_ret
  exact tb_new (w0 := w.drew) rfl (.inl rfl) HD.out
 ·go_wp2_with fail
  go_ret
  exact tb_new (w0 := w.drew) rfl (.inr rfl) HD.out
end Go.Proofs.YtndjcmclmhoigaaGreatDoor
namespace Go.Proofs.YtndjcmclmhoigaaGreatDoor
open Go.RowKit
set_option maxRecDepth 100000

set_option maxHeartbeats 2000000 in
theorem dText_out {f d c : Int} (hc : chkE f d = c) (h0 : ¬ c = 0) (w : World) (hL : LaidEn w) :
 Calls Tryz.prog 98 #[.agg #[.int .i8 f, .int .i64 d]] w fun x w' => x = .returned (.tuple #[.string ⟨#[]⟩, .int .i64 c]) ∧ Below w.heap.size w w' := by
 have r1 := Kp.mk (fun v (h : Below w.heap.size w v) => dChk_is hc v (hL.below h))
 clear hc hL
 have HA := Kp.mk (eb_new f d 24 (Below.refl w.heap.size w))
 go_enter Tryz.func98, Tryz.ntmps98
 go_upto_region 1 with fail
 generalize w.alloc (.cells #[.int .i8 f, .int .i64 d] 24) = w0 at *
 have k0 := HA.out.c0
 have k1 := HA.out.c1
 go_wp2_with fail
 refine (r1.out _ HA.out.below).mono ?_
 rintro e w1 ⟨rfl, hbl⟩
 have HA := Kp.mk (HA.out.step hbl)
 clear hbl k0 k1
 have k0 := HA.out.c0
 have k1 := HA.out.c1
 go_wp2_with fail
 go_ret2
 exact ⟨rfl, HA.out.below⟩
set_option maxHeartbeats 4000000 in
theorem dText_min (w : World) (hL : LaidEn w) :
 Calls Tryz.prog 98 #[.agg #[.int .i8 (-1), .int .i64 0]] w fun x w' => x = .returned (.tuple #[.string ⟨#[45, 105, 110, 102]⟩, .int .i64 0]) ∧ Below w.heap.size w w' := by
 have r1 := Kp.mk (fun v (h : Below w.heap.size w v) => dChk_is (f := -1) (d := 0) (c := 0) (chkE_zero.2 (by omega)) v (hL.below h))
 have HL := Kp.mk (fun v (h : Below w.heap.size w v) => hL.below h)
 obtain ⟨lk, hk⟩ := key_any (f := -1) (d := 0) (by omega) (by omega) (by omega) (by omega)
 have HK := Kp.mk hk
 clear hL hk
 have HA := Kp.mk (eb_new (-1) 0 24 (Below.refl w.heap.size w))
 go_enter Tryz.func98, Tryz.ntmps98
 go_upto_region 1 with fail
 generalize w.alloc (.cells #[.int .i8 (-1), .int .i64 0] 24) = w0 at *
 have k0 := HA.out.c0
 have k1 := HA.out.c1
 go_wp2_with fail
 refine (r1.out _ HA.out.below).mono ?_
 rintro e w1 ⟨rfl, hbl⟩
 have HA := Kp.mk (HA.out.step hbl)
 clear hbl k0 k1
 have HD := Kp.mk (HA.out.step (Below.refl w1.heap.size w1).drew)
 have k0 := HA.out.c0
 have k1 := HA.out.c1
 have k0d := HD.out.c0
 have k1d := HD.out.c1
 have HLd := Kp.mk (HL.out _ HD.out.below)
 go_wp2_with fail
 go_region_with (go_at_call 137; refine (infs_is _ ?_).mono ?_; exact HLd.out; rintro e w2 ⟨r, es, rfl, hes, hr, hm, hbl⟩; have HE := Kp.mk (HD.out.step hbl); have k2 := HE.out.c0; have k3 := HE.out.c1; have hlk := (look_is w2 hes hm HK.out).1 rfl; clear hes hr hm hbl)
 all_goals
  go_wp2_with fail
  go_ret2
  exact ⟨rfl, HE.out.below⟩
set_option maxHeartbeats 4000000 in
theorem dText_max (w : World) (hL : LaidEn w) :
 Calls Tryz.prog 98 #[.agg #[.int .i8 1, .int .i64 0]] w fun x w' => x = .returned (.tuple #[.string ⟨#[105, 110, 102]⟩, .int .i64 0]) ∧ Below w.heap.size w w' := by
 have r1 := Kp.mk (fun v (h : Below w.heap.size w v) => dChk_is (f := 1) (d := 0) (c := 0) (chkE_zero.2 (by omega)) v (hL.below h))
 have HL := Kp.mk (fun v (h : Below w.heap.size w v) => hL.below h)
 obtain ⟨lk, hk⟩ := key_any (f := 1) (d := 0) (by omega) (by omega) (by omega) (by omega)
 have HK := Kp.mk hk
 clear hL hk
 have HA := Kp.mk (eb_new 1 0 24 (Below.refl w.heap.size w))
 go_enter Tryz.func98, Tryz.ntmps98
 go_upto_region 1 with fail
 generalize w.alloc (.cells #[.int .i8 1, .int .i64 0] 24) = w0 at *
 have k0 := HA.out.c0
 have k1 := HA.out.c1
 go_wp2_with fail
 refine (r1.out _ HA.out.below).mono ?_
 rintro e w1 ⟨rfl, hbl⟩
 have HA := Kp.mk (HA.out.step hbl)
 clear hbl k0 k1
 have HD := Kp.mk (HA.out.step (Below.refl w1.heap.size w1).drew)
 have k0 := HA.out.c0
 have k1 := HA.out.c1
 have k0d := HD.out.c0
 have k1d := HD.out.c1
 have HLd := Kp.mk (HL.out _ HD.out.below)
 go_wp2_with fail
 go_region_with (go_at_call 137; refine (infs_is _ ?_).mono ?_; exact HLd.out; rintro e w2 ⟨r, es, rfl, hes, hr, hm, hbl⟩; have HE := Kp.mk (HD.out.step hbl); have k2 := HE.out.c0; have k3 := HE.out.c1; have hlk := (look_is w2 hes hm HK.out).2.1 rfl; clear hes hr hm hbl)
 all_goals
  go_wp2_with fail
  go_ret2
  exact ⟨rfl, HE.out.below⟩
set_option maxHeartbeats 4000000 in
theorem dText_day {d : Int} (d0 : -9223372036854775808 ≤ d) (d1 : d ≤ 9223372036854775807) (w : World) (hL : LaidEn w) :
 Calls Tryz.prog 98 #[.agg #[.int .i8 0, .int .i64 d]] w fun x w' => x = .returned (.tuple #[.string ⟨(Lib.itoa d).toArray⟩, .int .i64 0]) ∧ Below w.heap.size w w' := by
 have r1 := Kp.mk (fun v (h : Below w.heap.size w v) => dChk_is (f := 0) (d := d) (c := 0) (chkE_zero.2 (by omega)) v (hL.below h))
 have HL := Kp.mk (fun v (h : Below w.heap.size w v) => hL.below h)
 obtain ⟨lk, hk⟩ := key_any (f := 0) (d := d) (by omega) (by omega) (by omega) (by omega)
 have HK := Kp.mk hk
 have r2 := Kp.mk (fun v (h : Below w.heap.size w v) => I1.text_any d v (hL.below h).ints d0 d1)
 clear hL hk d0 d1
 have HA := Kp.mk (eb_new 0 d 24 (Below.refl w.heap.size w))
 go_enter Tryz.func98, Tryz.ntmps98
 go_upto_region 1 with fail
 generalize w.alloc (.cells #[.int .i8 0, .int .i64 d] 24) = w0 at *
 have k0 := HA.out.c0
 have k1 := HA.out.c1
 go_wp2_with fail
 refine (r1.out _ HA.out.below).mono ?_
 rintro e w1 ⟨rfl, hbl⟩
 have HA := Kp.mk (HA.out.step hbl)
 clear hbl k0 k1
 have HD := Kp.mk (HA.out.step (Below.refl w1.heap.size w1).drew)
 have k0 := HA.out.c0
 have k1 := HA.out.c1
 have k0d := HD.out.c0
 have k1d := HD.out.c1
 have HLd := Kp.mk (HL.out _ HD.out.below)
 go_wp2_with fail
 go_region_with (go_at_call 137; refine (infs_is _ ?_).mono ?_; exact HLd.out; rintro e w2 ⟨r, es, rfl, hes, hr, hm, hbl⟩; have HE := Kp.mk (HD.out.step hbl); have k2 := HE.out.c0; have k3 := HE.out.c1; have hlk := (look_is w2 hes hm HK.out).2.2 (by simp) (by simp); clear hes hr hm hbl)
 all_goals
  go_wp2_with fail
  refine (r2.out _ HE.out.below).mono ?_
  rintro e w3 ⟨rfl, hbl⟩
  have HF := Kp.mk (HE.out.step hbl)
  clear hbl
  go_wp2_with fail
  go_ret2
  exact ⟨rfl, HF.out.below⟩
theorem dText_in {f d : Int} (d0 : -9223372036854775808 ≤ d) (d1 : d ≤ 9223372036854775807) (hc : chkE f d = 0) (w : World) (hL : LaidEn w) :
 Calls Tryz.prog 98 #[.agg #[.int .i8 f, .int .i64 d]] w fun x w' => x = .returned (.tuple #[.string (bs (textE f d)), .int .i64 0]) ∧ Below w.heap.size w w' := by
 rcases chkE_zero.1 hc with rfl | ⟨rfl | rfl, rfl⟩
 ·exact dText_day d0 d1 w hL
 ·exact dText_max w hL
 ·exact dText_min w hL
end Go.Proofs.YtndjcmclmhoigaaGreatDoor
namespace Go.Proofs.YtndjcmclmhoigaaGreatDoor
open Go.RowKit
open Go.ChangeMaps (setBlock)
set_option maxRecDepth 100000

/-- the range under way: the result's block, the map, the iterator -/
structure Ps (w : World) (r it : Nat) (es : Array MapEntry) (seen : Array Nat) (W : World) : Prop where
 row : ERow w w.heap.size 0 0 W
 map : W.heap[r]? = some (.map es 2)
 iter : W.heap[it]? = some (.mapIter (some r) 2 seen 2)
variable {w W W' : World} {r it : Nat} {es : Array MapEntry} {seen : Array Nat}
theorem Ps.lt (h : Ps w r it es seen W) : it < W.heap.size := (Array.getElem?_eq_some_iff.1 h.iter).1
theorem Ps.ltr (h : Ps w r it es seen W) : r < W.heap.size := (Array.getElem?_eq_some_iff.1 h.map).1
theorem Ps.step (h : Ps w r it es seen W) (hb : Below W.heap.size W W') : Ps w r it es seen W' :=
 ⟨h.row.step hb, by rw [hb.block r h.ltr]; exact h.map, by rw [hb.block it h.lt]; exact h.iter⟩
theorem Ps.next (h : Ps w r it es seen W) (hi : w.heap.size < it) (hr : r ≠ it) {w1 : World} (hw : w1 = W ∨ w1 = W.drew) (b : Nat) : Ps w r it es (seen.push b) (setBlock w1 it (.mapIter (some r) 2 (seen.push b) 2)) := by
 have h1 : Ps w r it es seen w1 := by
  rcases hw with rfl | rfl
  ·exact h
  ·exact h.step (Below.refl _ _).drew
 have hh : ∀ k, k ≠ it → (setBlock w1 it (.mapIter (some r) 2 (seen.push b) 2)).heap[k]? = w1.heap[k]? := fun k hk => by simp only [setBlock]; rw [Array.getElem?_setIfInBounds, if_neg (fun e => hk e.symm)]
 have hs : (setBlock w1 it (.mapIter (some r) 2 (seen.push b) 2)).heap.size = w1.heap.size := by simp [setBlock]
 have hb := h1.row.below
 refine ⟨⟨⟨hb.os, hb.tape, hb.output, by rw [hs]; exact hb.size, fun k hk => by rw [hh k (by omega)]; exact hb.block k hk⟩, h1.row.base, by rw [hh _ (by omega)]; exact h1.row.heap⟩, by rw [hh r hr]; exact h1.map, ?_⟩
 simp only [setBlock]
 rw [Array.getElem?_setIfInBounds, if_pos rfl, if_pos h1.lt]
theorem iterSeen_of {m : Option Nat} {b c : Nat} {s : Array Nat} (h : W.heap[it]? = some (.mapIter m b s c)) : W.iterSeen it = s := by
 unfold World.iterSeen
 rw [h]
theorem Tb.old (h : Tb es) : ∀ x ∈ es.toList, x.born < 2 := by
 rcases h with rfl | rfl <;> simp
theorem Tb.nodup (h : Tb es) : (es.toList.map (·.born)).Nodup := by
 rcases h with rfl | rfl <;> simp
theorem Tb.entry (h : Tb es) {e : MapEntry} (he : e ∈ es.toList) : ∃ f t, e.key = kEnd f 0 ∧ e.val = .string (bs t) ∧ (f = -1 ∧ t = minfL ∨ f = 1 ∧ t = infL) := by
 rcases h with rfl | rfl <;> simp at he <;> rcases he with rfl | rfl <;> first | exact ⟨-1, minfL, rfl, rfl, .inl ⟨rfl, rfl⟩⟩ | exact ⟨1, infL, rfl, rfl, .inr ⟨rfl, rfl⟩⟩
theorem Tb.has (h : Tb es) : (∃ x ∈ es.toList, x.val = .string (bs minfL)) ∧ ∃ x ∈ es.toList, x.val = .string (bs infL) := by
 rcases h with rfl | rfl <;> simp <;> exact ⟨by first | exact .inl rfl | exact .inr rfl, by first | exact .inl rfl | exact .inr rfl⟩
set_option maxHeartbeats 4000000 in
theorem dPar_is {l : List UInt8} {f d c : Int} (h : ParE l f d c) (hl : l.length ≤ 1000) (w : World) (hL : LaidEn w) :
 Calls Tryz.prog 101 #[.string (bs l)] w fun x w' => x = .returned (.tuple #[.agg #[.int .i8 f, .int .i64 d], .int .i64 c]) ∧ Below w.heap.size w w' := by
 have HP := Kp.mk h
 have HL := Kp.mk (fun v (hv : Below w.heap.size w v) => hL.below hv)
 have hs : (bs l).size ≤ 281474976710656 := by rw [bs_size]; omega
 have HS := Kp.mk hs
 have hdl : (bs l).data.toList = l := by unfold bs; simp
 have HR := Kp.mk (erow_new (w := w) 0 0 (Below.refl w.heap.size w))
 clear h hl hL hs
 obtain ⟨s, hse⟩ : ∃ s, s = bs l := ⟨_, rfl⟩
 have HE := Kp.mk hse
 have HDL := Kp.mk (hse ▸ hdl)
 rw [← hse]
 rw [← hse] at HS
 clear hdl hse
 go_enter Tryz.func101, Tryz.ntmps101
 go_upto_region 1 with fail
 generalize w.alloc (.cells #[.int .i8 0, .int .i64 0] 24) = w0 at *
 go_wp2_with fail
 refine (infs_is _ (HL.out _ HR.out.below)).mono ?_
 rintro e w1 ⟨r, es, rfl, hes, hr, hm, hbl⟩
 have hrg := run_range_map (P := Tryz.prog) w1 162 24 9 r es 2 Tryz.underlying162 hm
 have HR1 := Kp.mk (HR.out.step hbl)
 have HPs : Kp (Ps w r w1.heap.size es #[] (w1.alloc (.mapIter (some r) 2 #[] 2))) := Kp.mk ⟨HR1.out.step ((Below.refl w1.heap.size w1).alloc (Nat.le_refl _) _), by rw [heap_alloc_old w1 _ (Array.getElem?_eq_some_iff.1 hm).1]; exact hm, heap_alloc_new w1 _⟩
 have HT := Kp.mk hes
 have HQ : Kp (w.heap.size < w1.heap.size ∧ r ≠ w1.heap.size) := Kp.mk ⟨by have := (Array.getElem?_eq_some_iff.1 HR1.out.heap).1; omega, by have := (Array.getElem?_eq_some_iff.1 hm).1; omega⟩
 clear hes hr hm hbl HR HR1
 go_wp2_with fail
 clear hrg
 generalize w1.alloc (.mapIter (some r) 2 #[] 2) = w2 at *
 generalize w1.heap.size = it at *
 go_loopw [] (fun wr => ∃ seen, Kp (Ps w r it es seen wr) ∧ Kp (∀ x ∈ es.toList, seen.contains x.born = true → ¬ x.val = .string s)) (fun wr => (leftOf es (wr.iterSeen it)).size)
 case atStart => exact ⟨#[], HPs, Kp.mk (fun x _ hx => by simp at hx)⟩
 case round =>
  obtain ⟨seen, HP1, HN⟩ := hrel
  clear HPs
  have law := run_next_at (P := Tryz.prog) _ 0 it r 2 2 seen es 2 HP1.out.iter HP1.out.map HT.out.old (Nat.le_refl _)
  rcases law with ⟨h0, hrun⟩ | ⟨e, he, w3, hw3, hrun⟩
  ·have hnx : ∀ ty, (Instr.next (.pointer (some ⟨it, 0, none⟩)) false ty).run Tryz.prog _ = _ := fun _ => hrun
   have hno : ¬ l = minfL ∧ ¬ l = infL := by
    obtain ⟨⟨x, hx, hxv⟩, ⟨y, hy, hyv⟩⟩ := HT.out.has
    constructor
    ·intro e; exact HN.out x hx (all_seen es seen h0 x hx) (by rw [hxv, HE.out, e])
    ·intro e; exact HN.out y hy (all_seen es seen h0 y hy) (by rw [hyv, HE.out, e])
   clear HN hrun h0
   by_cases hF : Form l
   ·by_cases hr : -9223372036854775808 ≤ textVal l ∧ textVal l ≤ 9223372036854775807
    ·obtain ⟨rfl, rfl, rfl⟩ := HP.out.fits hno.2 hno.1 hF hr
     have rp : Kp (∀ v : World, Calls Tryz.prog 140 #[.string s] v fun e v' => e = .returned (.tuple #[.int .i64 (textVal l), .int .i64 0]) ∧ Below v.heap.size v v') := Kp.mk (fun v => by
      have := I1.parse_in s v HS.out (by rw [HDL.out]; exact hF) (by rw [HDL.out]; exact hr.1) (by rw [HDL.out]; exact hr.2)
      rw [HDL.out] at this
      exact this)
     clear hno hF hr
     go_wp2_with fail
     refine (rp.out _).mono ?_
     rintro e w4 ⟨rfl, hbl⟩
     have HR := Kp.mk (HP1.out.row.step hbl)
     clear hbl hnx
     go_wp2_with fail
     refine (dOf_is _ _).mono ?_
     rintro e w5 ⟨rfl, hbl⟩
     have HR := Kp.mk (HR.out.step hbl)
     clear hbl
     go_wp2_with (first
      | refine wpList_store_row' rfl 24 (.tmp 2) (.tmp 29) rfl (w.heap.size) #[.int .i8 0, .int .i64 (textVal l)] rfl rfl 24 #[.int .i8 0, .int .i64 0] HR.out.heap infoEnd rfl (two_one _ _) ?_)
     refine bodyPost_ret (results_cell_tmp (p := 2) (ty := 24) rfl _ _ (w.heap.size) 24 #[.int .i8 0, .int .i64 (textVal l)] (0, 0) _ rfl (setRow_heap _ _ _ _ _ _ HR.out.heap) Tryz.underlying24 rfl infoEnd) rfl ?_
     exact ⟨rfl, below_setRow HR.out.below HR.out.base _⟩
    ·obtain ⟨rfl, rfl, rfl⟩ := HP.out.over hno.2 hno.1 hF hr
     have rp : Kp (∀ v : World, LaidEn v → Calls Tryz.prog 140 #[.string s] v fun e v' => e = .returned (.tuple #[.int .i64 0, .int .i64 15]) ∧ Below v.heap.size v v') := Kp.mk (fun v hv => by
      exact I1.parse_out s v hv.ints HS.out (by rw [HDL.out]; exact hF) (by rw [HDL.out]; exact hr))
     clear hno hF hr
     go_wp2_with fail
     refine (rp.out _ (HL.out _ HP1.out.row.below)).mono ?_
     rintro e w4 ⟨rfl, hbl⟩
     have HR := Kp.mk (HP1.out.row.step hbl)
     clear hbl hnx
     go_wp2_with (first
      | refine wpList_store_row' rfl 24 (.tmp 2) (.tmp 26) rfl (w.heap.size) #[.int .i8 0, .int .i64 0] rfl rfl 24 #[.int .i8 0, .int .i64 0] HR.out.heap infoEnd rfl (two_one _ _) ?_)
     refine bodyPost_ret (results_cell_tmp (p := 2) (ty := 24) rfl _ _ (w.heap.size) 24 #[.int .i8 0, .int .i64 0] (0, 0) _ rfl (setRow_heap _ _ _ _ _ _ HR.out.heap) Tryz.underlying24 rfl infoEnd) rfl ?_
     exact ⟨rfl, below_setRow HR.out.below HR.out.base _⟩
   ·obtain ⟨rfl, rfl, rfl⟩ := HP.out.no hno.2 hno.1 hF
    have rp : Kp (∀ v : World, Calls Tryz.prog 140 #[.string s] v fun e v' => e = .returned (.tuple #[.int .i64 0, .int .i64 5]) ∧ Below v.heap.size v v') := Kp.mk (fun v => by
     exact I1.parse_no' s v HS.out (by rw [HDL.out]; exact hF))
    clear hno hF
    go_wp2_with fail
    refine (rp.out _).mono ?_
    rintro e w4 ⟨rfl, hbl⟩
    have HR := Kp.mk (HP1.out.row.step hbl)
    clear hbl hnx
    go_wp2_with (first
     | refine wpList_store_row' rfl 24 (.tmp 2) (.tmp 26) rfl (w.heap.size) #[.int .i8 0, .int .i64 0] rfl rfl 24 #[.int .i8 0, .int .i64 0] HR.out.heap infoEnd rfl (two_one _ _) ?_)
    refine bodyPost_ret (results_cell_tmp (p := 2) (ty := 24) rfl _ _ (w.heap.size) 24 #[.int .i8 0, .int .i64 0] (0, 0) _ rfl (setRow_heap _ _ _ _ _ _ HR.out.heap) Tryz.underlying24 rfl infoEnd) rfl ?_
    exact ⟨rfl, below_setRow HR.out.below HR.out.base _⟩
  ·obtain ⟨f', t, hk, hv, hft⟩ := HT.out.entry (mem_left he).1
   have HPn := Kp.mk (HP1.out.next HQ.out.1 HQ.out.2 hw3 e.born)
   have hen := run_entry_at (P := Tryz.prog) _ it r 2 seen es 2 e HPn.out.iter HPn.out.map (mem_left he).1 HT.out.nodup
   obtain ⟨x, hx⟩ : ∃ x, x = bs t := ⟨_, rfl⟩
   rw [← hx] at hv
   have HV := Kp.mk (And.intro he (And.intro hv (And.intro hx hft)))
   have hlf := left_shrinks es seen e he
   have HSN := Kp.mk (iterSeen_of HP1.out.iter)
   have HLF := Kp.mk hlf
   rw [hk, hv] at hrun hen
   clear hk hv hx hft hw3 he hlf
   have hnx : ∀ ty, (Instr.next (.pointer (some ⟨it, 0, none⟩)) false ty).run Tryz.prog _ = _ := fun _ => hrun
   clear hrun
   go_upto_region 3 with fail
   clear hnx
   generalize setBlock w3 it (.mapIter (some r) 2 (seen.push e.born) 2) = w4 at *
   have hR5 := erow_new (w := w) 0 0 HPn.out.row.below
   have hB5 : Below w4.heap.size w4 ((w4.alloc (.cells #[.int .i8 0, .int .i64 0] 24)).setRow w4.heap.size #[.int .i8 f', .int .i64 0]) := below_setRow ((Below.refl w4.heap.size w4).alloc (Nat.le_refl _) _) (Nat.le_refl _) _
   have HP5 := Kp.mk (HPn.out.step hB5)
   have hh5 := setRow_heap _ _ _ #[.int .i8 f', .int .i64 0] _ _ hR5.heap
   have k0 : ((w4.alloc (.cells #[.int .i8 0, .int .i64 0] 24)).setRow w4.heap.size #[.int .i8 f', .int .i64 0]).cell? ⟨w4.heap.size, 0, none⟩ = some (.int .i8 f') := by rw [cell_of_row _ _ 0 _ _ _ hh5]; rfl
   have k1 : ((w4.alloc (.cells #[.int .i8 0, .int .i64 0] 24)).setRow w4.heap.size #[.int .i8 f', .int .i64 0]).cell? ⟨w4.heap.size, 1, none⟩ = some (.int .i64 0) := by rw [cell_of_row _ _ 1 _ _ _ hh5]; rfl
   clear hR5 hB5 hh5
   by_cases hlt : l = t
   ·have t1 : (s.toList == x.toList) = true := by rw [HE.out, HV.out.2.2.1, hlt, beq_self_eq_true]
    have hfd : f = f' ∧ d = 0 ∧ c = 0 := by
     rcases HV.out.2.2.2 with ⟨rfl, rfl⟩ | ⟨rfl, rfl⟩
     ·exact HP.out.minf hlt
     ·exact HP.out.inf hlt
    obtain ⟨rfl, rfl, rfl⟩ := hfd
    have HR := Kp.mk HP5.out.row
    clear hlt
    go_wp2_with (first
     | refine wpList_store_row' rfl 24 (.tmp 4) (.tmp 13) rfl (w4.heap.size) #[.int .i8 f, .int .i64 0] rfl rfl 24 #[.int .i8 0, .int .i64 0] (heap_alloc_new _ _) infoEnd rfl (two_one _ _) ?_
     | refine wpList_store_row' rfl 24 (.tmp 2) (.tmp 18) rfl (w.heap.size) #[.int .i8 f, .int .i64 0] rfl rfl 24 #[.int .i8 0, .int .i64 0] HR.out.heap infoEnd rfl (two_one _ _) ?_)
    refine bodyPost_ret (results_cell_tmp (p := 2) (ty := 24) rfl _ _ (w.heap.size) 24 #[.int .i8 f, .int .i64 0] (0, 0) _ rfl (setRow_heap _ _ _ _ _ _ HR.out.heap) Tryz.underlying24 rfl infoEnd) rfl ?_
    exact ⟨rfl, below_setRow HR.out.below HR.out.base _⟩
   ·have t1 : (s.toList == x.toList) = false := by
     rw [beq_eq_false_iff_ne]
     intro e
     apply hlt
     have : s = x := by rw [ByteArray.toList_eq, ByteArray.toList_eq] at e; exact ByteArray.ext (Array.toList_inj.1 e)
     rw [HE.out, HV.out.2.2.1] at this
     exact bs_inj.1 this
    clear hlt
    go_wp2_with (first
     | refine wpList_store_row' rfl 24 (.tmp 4) (.tmp 13) rfl (w4.heap.size) #[.int .i8 f', .int .i64 0] rfl rfl 24 #[.int .i8 0, .int .i64 0] (heap_alloc_new _ _) infoEnd rfl (two_one _ _) ?_)
    go_roundw
    case rel =>
     refine ⟨seen.push e.born, HP5, Kp.mk (fun y hy hc => ?_)⟩
     rw [contains_push] at hc
     rcases Bool.or_eq_true _ _ ▸ hc with h1 | h1
     ·exact HN.out y hy h1
     ·have hye : y = e := born_inj HT.out.nodup hy (mem_left HV.out.1).1 (beq_iff_eq.1 h1)
      rw [hye, HV.out.2.1]
      intro e2
      injection e2 with e2
      rw [e2, beq_self_eq_true] at t1
      exact Bool.noConfusion t1
    case measure =>
     rw [iterSeen_of HP5.out.iter, HSN.out]
     exact HLF.out
end Go.Proofs.YtndjcmclmhoigaaGreatDoor
