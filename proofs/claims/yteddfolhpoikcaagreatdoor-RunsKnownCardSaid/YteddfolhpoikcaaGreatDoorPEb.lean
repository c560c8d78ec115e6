/-
 DERIVED. THE FRAME's SHARED FACTS: what the listed package-level variables give the walks.
 DERIVED. WHAT THE LISTED VARIABLES (the two infinities, and those of package ints) give the walks.
 DERIVED. WHAT THE LISTED VARIABLES and the world's shape give the walks of package runs; the frame of the cards, with the shape kept.
-/
import Derived.Test.YteddfolhpoikcaaGreatDoorTie
import Derived.Test.YteddfolhpoikcaaGreatDoorCards
import Derived.Test.YteddfolhpoikcaaGreatDoorPI1Txt
import Derived.ProofKit
import Derived.LaidMore
import Derived.OpenShut
import Derived.Lay
import Derived.Lib.LaidTab
import Derived.Stop.LaidErr
import Derived.SevenTiedAt
import Derived.Stop.Joined
import Derived.Lib.AtoiErrMem
import Derived.Test.YteddfolhpoikcaaGreatDoorPEnDev
import Derived.Lib.SmallJoins
import Derived.Test.YteddfolhpoikcaaGreatDoorPRnCut
import Derived.HandedShaped
namespace Go.Proofs.YteddfolhpoikcaaGreatDoor.I1
open Go.ChangeShapes Go.WideShapes Go.ChangeAt Go.RowKit
set_option maxRecDepth 100000

theorem gRangeType : (Tryz.prog.globals[5]?).map (·.type) = some 118 := by kernel_rfl
theorem gPowType : (Tryz.prog.globals[3]?).map (·.type) = some 150 := by kernel_rfl
theorem star : "*" ++ "errors.errorString" = "*errors.errorString" := by decide
theorem rowErr (u : TypeId) (h : Tryz.prog.typeName? 3 u = some "*errors.errorString") : u = 167 :=
 typeName_ptr_named (nm := "errors.errorString") (by rw [star]; kernel_rfl) (by kernel_rfl) (by decide) u (by rw [star]; exact h)
/-- the variables' data, as the laid list of a row has them, give what the walks ask -/
theorem laid_of {W : World} {r1 r2 : List (String × DataW Unit)}
 (h1 : laidMet Tryz.prog (("strconv.ErrRange", Rows.laid_strconv_ErrRange) :: r1) W)
 (h2 : laidMet Tryz.prog (("internal/strconv.uint64pow10", Rows.laid_internal_strconv_uint64pow10) :: r2) W) : Laid W := by
 obtain ⟨a, s, hv, _⟩ := laid_sentinel h1 gRange gRangeType Tryz.underlying118 rowErr Tryz.underlying167 Tryz.underlying169 rfl rfl Tryz.underlying9 (by kernel_rfl) (by kernel_rfl)
 have h3 : laidMet Tryz.prog (("internal/strconv.uint64pow10", Lib.tabData .u64 Lib.pow10Tab) :: r2) W := h2
 have hp := Lib.tabIs_of_head gPow gPowType Tryz.underlying150 Tryz.underlying128 (by kernel_rfl) (by kernel_rfl) h3
 refine ⟨⟨_, _, hv⟩, hp, ?_, ?_⟩
 ·have := World.var?_cell gRange hv 0
  exact Lib.lt_of_cell (a := ⟨5, 0, none⟩) (by simpa using this)
 ·have := Lib.TabIs.cell hp gPow 0 (by decide)
  exact Lib.lt_of_cell (a := ⟨3, 0, none⟩) this
end Go.Proofs.YteddfolhpoikcaaGreatDoor.I1
namespace Go.Proofs.YteddfolhpoikcaaGreatDoor
open Go.ChangeShapes Go.WideShapes Go.ChangeAt Go.RowKit
set_option maxRecDepth 100000

theorem own : ownKnob Tryz.prog.godebug = none := by kernel_rfl
theorem gLeast : Tryz.prog.globalNamed "circa/ends.least" = some 0 := by kernel_rfl
theorem gGreatest : Tryz.prog.globalNamed "circa/ends.greatest" = some 1 := by kernel_rfl
theorem gLeastType : (Tryz.prog.globals[0]?).map (·.type) = some 24 := by kernel_rfl
theorem gGreatestType : (Tryz.prog.globals[1]?).map (·.type) = some 24 := by kernel_rfl
theorem cells_i8 : Tryz.prog.cellsOf 22 = 1 := by kernel_rfl
theorem cells_i64 : Tryz.prog.cellsOf 2 = 1 := by kernel_rfl
theorem cells_end : Tryz.prog.cellsOf 24 = 2 := by kernel_rfl
/-- an end, as it lies -/
theorem lend_of {H : Type} {enc : TypeId × Value → H} {w : World} {base : Nat} {sp : Nat → Bool} {held : Bool} {fuel : Nat} {cs : Array Value} {y : DataW H × List MemPlace} {a b : Int}
 (h : DataW.trod enc Tryz.prog w base sp held fuel 24 cs.toList = some y) (hy : y.1 = .agg [.lit (.int .i8 a), .lit (.int .i64 b)]) :
 cs = #[.int .i8 a, .int .i64 b] := by
 obtain ⟨y0, y1, n, rfl, hl, a0, a1⟩ := trod_struct2 Tryz.underlying24 h
 rw [cells_end] at hl
 obtain ⟨u, v, rfl⟩ : ∃ u v, cs = #[u, v] := by
  obtain ⟨l⟩ := cs
  match l, hl with
  | [u, v], _ => exact ⟨u, v, rfl⟩
 obtain ⟨k, c0, rfl, _⟩ := DataW.trod_int Tryz.underlying22 a0
 obtain ⟨l, c1, rfl, _⟩ := DataW.trod_int Tryz.underlying2 a1
 rw [cells_i8] at c0
 rw [cells_i64] at c1
 simp at c0 c1 hy
 obtain ⟨rfl, rfl⟩ := hy
 rw [c0, c1]
theorem heap_of_var {P : Program} {w : World} {n : String} {g : Nat} {cs : Array Value} (hg : P.globalNamed n = some g) (h : w.var? P n = some cs) : ∃ t fr, w.heap[g]? = some (.cells cs t fr) := by
 unfold World.var? at h
 rw [hg] at h
 simp only [Option.bind_some] at h
 split at h
 ·rename_i c t fr e
  cases h
  exact ⟨_, _, e⟩
 ·cases h
theorem laid_least {W : World} {r1 : List (String × DataW Unit)} (h : laidMet Tryz.prog (("circa/ends.least", Rows.laid_circa_ends_least) :: r1) W) :
 ∃ t fr, W.heap[0]? = some (.cells #[.int .i8 (-1), .int .i64 0] t fr) := by
 obtain ⟨ps, ⟨g', t', cs, fuel, p, q, hg', ht', hvar, hd, _, _⟩, _⟩ := h
 obtain rfl := Option.some.inj (gLeast.symm.trans hg')
 obtain rfl := Option.some.inj (gLeastType.symm.trans ht')
 obtain rfl := lend_of hd rfl
 exact heap_of_var gLeast hvar
theorem laid_greatest {W : World} {r1 : List (String × DataW Unit)} (h : laidMet Tryz.prog (("circa/ends.greatest", Rows.laid_circa_ends_greatest) :: r1) W) :
 ∃ t fr, W.heap[1]? = some (.cells #[.int .i8 1, .int .i64 0] t fr) := by
 obtain ⟨ps, ⟨g', t', cs, fuel, p, q, hg', ht', hvar, hd, _, _⟩, _⟩ := h
 obtain rfl := Option.some.inj (gGreatest.symm.trans hg')
 obtain rfl := Option.some.inj (gGreatestType.symm.trans ht')
 obtain rfl := lend_of hd rfl
 exact heap_of_var gGreatest hvar
theorem laid_en {W : World} {r1 r2 r3 r4 : List (String × DataW Unit)} (h1 : laidMet Tryz.prog (("circa/ends.greatest", Rows.laid_circa_ends_greatest) :: r1) W) (h2 : laidMet Tryz.prog (("circa/ends.least", Rows.laid_circa_ends_least) :: r2) W)
 (h3 : laidMet Tryz.prog (("strconv.ErrRange", Rows.laid_strconv_ErrRange) :: r3) W) (h4 : laidMet Tryz.prog (("internal/strconv.uint64pow10", Rows.laid_internal_strconv_uint64pow10) :: r4) W) : LaidEn W := by
 obtain ⟨_, _, a⟩ := laid_greatest h1
 obtain ⟨_, _, b⟩ := laid_least h2
 exact ⟨I1.laid_of h3 h4, by rw [cell_of_row _ _ 0 _ _ _ b]; rfl, by rw [cell_of_row _ _ 1 _ _ _ b]; rfl, by rw [cell_of_row _ _ 0 _ _ _ a]; rfl, by rw [cell_of_row _ _ 1 _ _ _ a]; rfl,
  (Array.getElem?_eq_some_iff.1 b).1, (Array.getElem?_eq_some_iff.1 a).1⟩
end Go.Proofs.YteddfolhpoikcaaGreatDoor
namespace Go.Proofs.YteddfolhpoikcaaGreatDoor
open Go.ChangeShapes Go.WideShapes Go.ChangeAt Go.RowKit
set_option maxRecDepth 100000

theorem cell_lt {W : World} {g j : Nat} {v : Value} (h : W.cell? ⟨g, j, none⟩ = some v) : g < W.heap.size := by
 by_cases hg : g < W.heap.size
 ·exact hg
 ·unfold World.cell? at h
  rw [Array.getElem?_eq_none (by show W.heap.size ≤ g; omega)] at h
  simp at h
theorem laid_rn {W : World} (h : LaidEn W) (hs : W.ShapedOpen Tryz.prog) : LaidRn W := by
 have hm : ∃ m, W.cell? ⟨2, 0, none⟩ = some (.int .i64 m) := Tryz.laysM145.s1_3 W hs
 obtain ⟨m, hm'⟩ := hm
 exact ⟨h, ⟨m, hm'⟩, cell_lt hm'⟩
/-- a row with conditions on what lies in memory, and the world's shape handed on -/
theorem handed_shaped {H : Type} {enc : TypeId × Value → H} {a : Assume} {C : Checked} {os : Os} {f : FuncId} {fn : Func} {s : ChangeSpec} {conds : List PathCond} {apart fresh handsOn again : Bool} {X : World → Array Value → Prop}
 (hX : ∀ (w w' : World) (args : Array Value), w.heap = w'.heap → X w args → X w' args)
 (own : ownKnob C.prog.godebug = none) (started : os.Started) (noInit : C.prog.inits.idxOf? f = none) (hfn : C.prog.funcs[f]? = some fn)
 (witness : ∃ (w : World) (tape : Tape) (i : Input), w.os = os ∧ (w.forCall tape i).Shaped C.prog ∧ i.vars = [] ∧ Input.okWide C.prog (w.forCall tape i) .any w.heap.size f i ∧
  ((s.pre enc C.prog fn conds apart (w.forCall tape i).memory i.args ∧ X (w.forCall tape i).memory i.args) ∧ sizedMet enc C.prog fn (OpenSpec.ofChange s) apart (w.forCall tape i).memory i.args) ∧ a.holds C.prog (lone (Frame.enter C.prog f i.args .normal) [] (w.forCall tape i)))
 (walk : ∀ (W : World) (base : Nat) (args : Array Value) (ds gs : List (DataW H)) (before : List MemPlace),
  (∀ (j : Nat) t v, fn.params[j]? = some t → args[j]? = some v → Value.okWide C.prog W .any base t v) →
  DataW.Whole enc C.prog fn.params.toList s.vars apart W args.toList ds gs before → X W args → W.ShapedOpen C.prog →
  Calls C.prog f args W fun e W' => ∃ v, e = .returned v ∧ s.post enc C.prog fn apart fresh handsOn again W args v W') :
 ReturnsInHanded a C os f .any (fun w args => (s.pre enc C.prog fn conds apart w args ∧ X w args) ∧ sizedMet enc C.prog fn (OpenSpec.ofChange s) apart w args) (s.post enc C.prog fn apart fresh handsOn again) := by
 refine returnsInHanded_of_calls own started noInit witness (fun w tape i _ hsh _ hok hpre _ => ?_)
 obtain ⟨_, _, _, fn', hfn', _, _, _, _, hval⟩ := hok
 obtain rfl := Option.some.inj (hfn'.symm.trans hfn)
 obtain ⟨⟨⟨ds, gs, before, hw, _⟩, hx⟩, _⟩ := hpre
 refine (walk _ w.heap.size i.args ds gs before hval (DataW.Whole.of_heap (w' := w.forCall tape i) (by rfl) hw) (hX _ _ _ (by rfl) hx) hsh).mono fun e W' h => ?_
 obtain ⟨v, rfl, hp⟩ := h
 exact ChangeSpec.post_blind hp
end Go.Proofs.YteddfolhpoikcaaGreatDoor
