/-
 DERIVED. Package runsets, as its structure of contracts.
 DERIVED. THE FRAME's SHARED FACTS: what the listed package-level variables give the walks.
 DERIVED. WHAT THE LISTED VARIABLES (the two infinities, and those of package ints) give the walks.
 DERIVED. WHAT THE LISTED VARIABLES and the world's shape give the walks of package runs; the frame of the cards, with the shape kept.
 DERIVED. WHAT THE LISTED VARIABLES and the world's shape give the walks of package runsets.
 DERIVED. A LIST OF RUNS AS AN ARGUMENT, OPENED: its runs, where they lie.
-/
import Derived.Test.YtndjcmclmhoigaaGreatDoorPC3
import Derived.Test.YtndjcmclmhoigaaGreatDoorPC7
import Derived.Test.YtndjcmclmhoigaaGreatDoorPC9
import Derived.Test.YtndjcmclmhoigaaGreatDoorPRsLives
import Derived.Test.YtndjcmclmhoigaaGreatDoorTie
import Derived.Test.YtndjcmclmhoigaaGreatDoorCards
import Derived.Test.YtndjcmclmhoigaaGreatDoorPB5
import Derived.ProofKit
import Derived.LaidMore
import Derived.OpenShut
import Derived.Lay
import Derived.Lib.LaidTab
import Derived.Stop.LaidErr
import Derived.SevenTiedAt
import Derived.Stop.Joined
import Derived.Lib.AtoiErrMem
import Derived.Test.YtndjcmclmhoigaaGreatDoorPB6
import Derived.Lib.SmallJoins
import Derived.HandedShaped
import Derived.Test.YtndjcmclmhoigaaGreatDoorPRsDvA
import Derived.Test.YtndjcmclmhoigaaGreatDoorPB7
import Derived.Test.YtndjcmclmhoigaaGreatDoorPB4
import Derived.Deep.Slices
namespace Go.Proofs.YtndjcmclmhoigaaGreatDoor
open Go.RowKit
set_option maxRecDepth 100000

theorem some_bad {w : World} {a : Option Addr} {l : List Rn} {c : Int} {p : Nat} (hI : LaidEn w) (il : InL l) (nl : l.length ≤ maxLen) (al : Lr w a l w) (hc : chkRs l = c) (h0 : ¬ c = 0) (u : World) (hu : Below w.heap.size w u) :
 Calls Tryz.prog 124 #[.slice a l.length p] u fun x w' => x = .returned (.int .i64 c) ∧ Below u.heap.size u w' :=
 dSome_bad h0 fun _ hv => dChkS_is il hc nl (al.step (hu.trans (hv.mono hu.size))).now (hI.below (hu.trans (hv.mono hu.size)))
theorem some_no {w : World} {a : Option Addr} {p : Nat} (hI : LaidEn w) (al : Lr w a [] w) (u : World) (hu : Below w.heap.size w u) :
 Calls Tryz.prog 124 #[.slice a 0 p] u fun x w' => x = .returned (.int .i64 17) ∧ Below u.heap.size u w' :=
 dSome_no rfl fun v hv => dChkS_is (l := []) (cap := p) (fun _ h => (by cases h)) (by decide) (by decide) (al.step (hu.trans (hv.mono hu.size))).now (hI.below (hu.trans (hv.mono hu.size)))
theorem some_ok {w : World} {a : Option Addr} {l : List Rn} {p : Nat} (hI : LaidEn w) (il : InL l) (nl : l.length ≤ maxLen) (al : Lr w a l w) (hc : chkRs l = 0) (h0 : 0 < l.length) (u : World) (hu : Below w.heap.size w u) :
 Calls Tryz.prog 124 #[.slice a l.length p] u fun x w' => x = .returned (.int .i64 0) ∧ Below u.heap.size u w' :=
 dSome_ok h0 fun _ hv => dChkS_is il hc nl (al.step (hu.trans (hv.mono hu.size))).now (hI.below (hu.trans (hv.mono hu.size)))
theorem setCore : SetCore LaidRs where
 keep := fun h hb => h.below hb
 check := fun _ hI il nl al hc => dChkS_is il hc nl al hI.en
 of_bad := fun _ hI il nl al hc h0 => (dOfS_is il nl hc al hI.en).mono fun _ _ h => h.2 h0
 of_ok := fun _ hI il nl al hc => (dOfS_is il nl hc al hI.en).mono fun _ _ h => h.1 rfl
 has := fun _ hI il nl al d0 d1 hc => dHasS_is il d0 d1 hc nl al hI.en
 same := fun _ _ nl _ al am hc => dSameS_is nl hc al am
 uni_bad := fun _ hI il im nl nm al am hc h0 => dUni_bad hI.en il im nl nm al am hc h0
 uni := fun _ hI il im nl nm al am hc hp hq => dUni_is hI il im nl nm al am hc hp hq
 com_bad := fun _ hI il im nl nm al am hc h0 => dCom_bad hI.en il im nl nm al am hc h0
 com := fun _ hI il im nl nm al am hc hp hq => dCom_is hI il im nl nm al am hc hp hq
 wo_bad := fun _ hI il im nl nm al am hc h0 => dWo_bad hI.en il im nl nm al am hc h0
 wo := fun _ hI il im nl nm al am hc hp hq => dWo_is hI il im nl nm al am hc hp hq
 cpl_bad := fun _ hI il nl al hc h0 => dCpl_bad hI il nl al hc h0
 cpl := fun _ hI il nl al hc hp => dCpl_is hI il nl al hc hp
 ins_bad := fun _ hI il im nl nm al am hc h0 => dIns_bad hI.en il im nl nm al am hc h0
 ins := fun _ hI il im nl nm al am hb hc hp hq => dIns_is hI il im nl nm al am hb hc hp hq
 min_bad := fun _ hI il nl al hc h0 => dMin_bad h0 (some_bad hI.en il nl al hc h0)
 min_no := fun _ hI al => dMin_bad (by decide) (some_no hI.en al)
 min := fun _ hI il nl al hc hr => dMin_ok rfl (by unfold maxLen at nl; omega) al hr (some_ok hI.en il nl al hc (List.getElem?_eq_some_iff.1 hr).1)
 max_bad := fun _ hI il nl al hc h0 => dMax_bad h0 (some_bad hI.en il nl al hc h0)
 max_no := fun _ hI al => dMax_bad (by decide) (some_no hI.en al)
 max := fun _ hI il nl al hc hr => dMax_ok rfl (by unfold maxLen at nl; omega) al hr (some_ok hI.en il nl al hc (by have := (List.getElem?_eq_some_iff.1 hr).1; omega))
 cnt_bad := fun _ hI il nl al hc h0 => dCnt_bad il nl al hc h0 hI.en
 cnt := fun _ hI il nl al hc hr => dCnt_is il nl al hc hr hI.en
 text_bad := fun _ hI il nl al hc h0 => dTextS_bad il nl al hc h0 hI.en
 text := fun _ hI il nl al hc => dTextS_is il nl al hc hI.en
 parse_bad := fun w hI hl hp h h0 => (dParS_is hl hp h w hI).mono fun _ _ q => ⟨q.1.2 h0, q.2⟩
 parse := fun w hI hl hp h => (dParS_is hl hp h w hI).mono fun _ _ q => ⟨q.1.1 rfl, q.2⟩
theorem setFns : SetFns LaidRs := { setCore with lives := lives_of setCore }
end Go.Proofs.YtndjcmclmhoigaaGreatDoor
namespace Go.Proofs.YtndjcmclmhoigaaGreatDoor.I1
open Go.ChangeShapes Go.WideShapes Go.ChangeAt Go.RowKit
set_option maxRecDepth 100000

theorem gRangeType : (Tryz.prog.globals[9]?).map (·.type) = some 186 := by kernel_rfl
theorem gPowType : (Tryz.prog.globals[7]?).map (·.type) = some 251 := by kernel_rfl
theorem star : "*" ++ "errors.errorString" = "*errors.errorString" := by decide
theorem rowErr (u : TypeId) (h : Tryz.prog.typeName? 3 u = some "*errors.errorString") : u = 266 :=
 typeName_ptr_named (nm := "errors.errorString") (by rw [star]; kernel_rfl) (by kernel_rfl) (by decide) u (by rw [star]; exact h)
/-- the variables' data, as the laid list of a row has them, give what the walks ask -/
theorem laid_of {W : World} {r1 r2 : List (String × DataW Unit)}
 (h1 : laidMet Tryz.prog (("strconv.ErrRange", Rows.laid_strconv_ErrRange) :: r1) W)
 (h2 : laidMet Tryz.prog (("internal/strconv.uint64pow10", Rows.laid_internal_strconv_uint64pow10) :: r2) W) : Laid W := by
 obtain ⟨a, s, hv, _⟩ := laid_sentinel h1 gRange gRangeType Tryz.underlying186 rowErr Tryz.underlying266 Tryz.underlying268 rfl rfl Tryz.underlying9 (by kernel_rfl) (by kernel_rfl)
 have h3 : laidMet Tryz.prog (("internal/strconv.uint64pow10", Lib.tabData .u64 Lib.pow10Tab) :: r2) W := h2
 have hp := Lib.tabIs_of_head gPow gPowType Tryz.underlying251 Tryz.underlying216 (by kernel_rfl) (by kernel_rfl) h3
 refine ⟨⟨_, _, hv⟩, hp, ?_, ?_⟩
 ·have := World.var?_cell gRange hv 0
  exact Lib.lt_of_cell (a := ⟨9, 0, none⟩) (by simpa using this)
 ·have := Lib.TabIs.cell hp gPow 0 (by decide)
  exact Lib.lt_of_cell (a := ⟨7, 0, none⟩) this
end Go.Proofs.YtndjcmclmhoigaaGreatDoor.I1
namespace Go.Proofs.YtndjcmclmhoigaaGreatDoor
open Go.ChangeShapes Go.WideShapes Go.ChangeAt Go.RowKit
set_option maxRecDepth 100000

theorem own : ownKnob Tryz.prog.godebug = none := by kernel_rfl
theorem gLeast : Tryz.prog.globalNamed "circa/ends.least" = some 2 := by kernel_rfl
theorem gGreatest : Tryz.prog.globalNamed "circa/ends.greatest" = some 3 := by kernel_rfl
theorem gLeastType : (Tryz.prog.globals[2]?).map (·.type) = some 24 := by kernel_rfl
theorem gGreatestType : (Tryz.prog.globals[3]?).map (·.type) = some 24 := by kernel_rfl
theorem cells_i8 : Tryz.prog.cellsOf 22 = 1 := by kernel_rfl
theorem cells_i64 : Tryz.prog.cellsOf 2 = 1 := by kernel_rfl
theorem cells_end : Tryz.prog.cellsOf 24 = 2 := by kernel_rfl
/-- an end, as it lies -/
theorem lend_of {H : Type} {enc : TypeId × Value → H} {w : World} {base : Nat} {sp : Nat → Bool} {held : Bool} {fuel : Nat} {cs : Array Value} {y : DataW H × List MemPlace} {a b : Int}
 (h : DataW.trod enc Tryz.prog w base sp held fuel 24 cs.toList = some y) (hy : y.1 = .agg [.lit (.int .i8 a), .lit (.int .i64 b)]) :
 cs = #[.int .i8 a, .int .i64 b] := by
 obtain ⟨y0, y1, n, rfl, hl, a0, a1⟩ := trod_struct2 Tryz.underlying24 h
 rw [cells_end] at hl
 obtain ⟨u, v, rfl⟩ : ∃ u v, cs = #[u, v] := by
  obtain ⟨l⟩ := cs
  match l, hl with
  | [u, v], _ => exact ⟨u, v, rfl⟩
 obtain ⟨k, c0, rfl, _⟩ := DataW.trod_int Tryz.underlying22 a0
 obtain ⟨l, c1, rfl, _⟩ := DataW.trod_int Tryz.underlying2 a1
 rw [cells_i8] at c0
 rw [cells_i64] at c1
 simp at c0 c1 hy
 obtain ⟨rfl, rfl⟩ := hy
 rw [c0, c1]
theorem heap_of_var {P : Program} {w : World} {n : String} {g : Nat} {cs : Array Value} (hg : P.globalNamed n = some g) (h : w.var? P n = some cs) : ∃ t fr, w.heap[g]? = some (.cells cs t fr) := by
 unfold World.var? at h
 rw [hg] at h
 simp only [Option.bind_some] at h
 split at h
 ·rename_i c t fr e
  cases h
  exact ⟨_, _, e⟩
 ·cases h
theorem laid_least {W : World} {r1 : List (String × DataW Unit)} (h : laidMet Tryz.prog (("circa/ends.least", Rows.laid_circa_ends_least) :: r1) W) :
 ∃ t fr, W.heap[2]? = some (.cells #[.int .i8 (-1), .int .i64 0] t fr) := by
 obtain ⟨ps, ⟨g', t', cs, fuel, p, q, hg', ht', hvar, hd, _, _⟩, _⟩ := h
 obtain rfl := Option.some.inj (gLeast.symm.trans hg')
 obtain rfl := Option.some.inj (gLeastType.symm.trans ht')
 obtain rfl := lend_of hd rfl
 exact heap_of_var gLeast hvar
theorem laid_greatest {W : World} {r1 : List (String × DataW Unit)} (h : laidMet Tryz.prog (("circa/ends.greatest", Rows.laid_circa_ends_greatest) :: r1) W) :
 ∃ t fr, W.heap[3]? = some (.cells #[.int .i8 1, .int .i64 0] t fr) := by
 obtain ⟨ps, ⟨g', t', cs, fuel, p, q, hg', ht', hvar, hd, _, _⟩, _⟩ := h
 obtain rfl := Option.some.inj (gGreatest.symm.trans hg')
 obtain rfl := Option.some.inj (gGreatestType.symm.trans ht')
 obtain rfl := lend_of hd rfl
 exact heap_of_var gGreatest hvar
theorem laid_en {W : World} {r1 r2 r3 r4 : List (String × DataW Unit)} (h1 : laidMet Tryz.prog (("circa/ends.greatest", Rows.laid_circa_ends_greatest) :: r1) W) (h2 : laidMet Tryz.prog (("circa/ends.least", Rows.laid_circa_ends_least) :: r2) W)
 (h3 : laidMet Tryz.prog (("strconv.ErrRange", Rows.laid_strconv_ErrRange) :: r3) W) (h4 : laidMet Tryz.prog (("internal/strconv.uint64pow10", Rows.laid_internal_strconv_uint64pow10) :: r4) W) : LaidEn W := by
 obtain ⟨_, _, a⟩ := laid_greatest h1
 obtain ⟨_, _, b⟩ := laid_least h2
 exact ⟨I1.laid_of h3 h4, by rw [cell_of_row _ _ 0 _ _ _ b]; rfl, by rw [cell_of_row _ _ 1 _ _ _ b]; rfl, by rw [cell_of_row _ _ 0 _ _ _ a]; rfl, by rw [cell_of_row _ _ 1 _ _ _ a]; rfl,
  (Array.getElem?_eq_some_iff.1 b).1, (Array.getElem?_eq_some_iff.1 a).1⟩
end Go.Proofs.YtndjcmclmhoigaaGreatDoor
namespace Go.Proofs.YtndjcmclmhoigaaGreatDoor
open Go.ChangeShapes Go.WideShapes Go.ChangeAt Go.RowKit
set_option maxRecDepth 100000

theorem cell_lt {W : World} {g j : Nat} {v : Value} (h : W.cell? ⟨g, j, none⟩ = some v) : g < W.heap.size := by
 by_cases hg : g < W.heap.size
 ·exact hg
 ·unfold World.cell? at h
  rw [Array.getElem?_eq_none (by show W.heap.size ≤ g; omega)] at h
  simp at h
theorem laid_rn {W : World} (h : LaidEn W) (hs : W.ShapedOpen Tryz.prog) : LaidRn W := by
 have hm : ∃ m, W.cell? ⟨4, 0, none⟩ = some (.int .i64 m) := Tryz.laysM145.s1_3 W hs
 obtain ⟨m, hm'⟩ := hm
 exact ⟨h, ⟨m, hm'⟩, cell_lt hm'⟩
/-- a row with conditions on what lies in memory, and the world's shape handed on -/
theorem handed_shaped {H : Type} {enc : TypeId × Value → H} {a : Assume} {C : Checked} {os : Os} {f : FuncId} {fn : Func} {s : ChangeSpec} {conds : List PathCond} {apart fresh handsOn again : Bool} {X : World → Array Value → Prop}
 (hX : ∀ (w w' : World) (args : Array Value), w.heap = w'.heap → X w args → X w' args)
 (own : ownKnob C.prog.godebug = none) (started : os.Started) (noInit : C.prog.inits.idxOf? f = none) (hfn : C.prog.funcs[f]? = some fn)
 (witness : ∃ (w : World) (tape : Tape) (i : Input), w.os = os ∧ (w.forCall tape i).Shaped C.prog ∧ i.vars = [] ∧ Input.okWide C.prog (w.forCall tape i) .any w.heap.size f i ∧
  ((s.pre enc C.prog fn conds apart (w.forCall tape i).memory i.args ∧ X (w.forCall tape i).memory i.args) ∧ sizedMet enc C.prog fn (OpenSpec.ofChange s) apart (w.forCall tape i).memory i.args) ∧ a.holds C.prog (lone (Frame.enter C.prog f i.args .normal) [] (w.forCall tape i)))
 (walk : ∀ (W : World) (base : Nat) (args : Array Value) (ds gs : List (DataW H)) (before : List MemPlace),
  (∀ (j : Nat) t v, fn.params[j]? = some t → args[j]? = some v → Value.okWide C.prog W .any base t v) →
  DataW.Whole enc C.prog fn.params.toList s.vars apart W args.toList ds gs before → X W args → W.ShapedOpen C.prog →
  Calls C.prog f args W fun e W' => ∃ v, e = .returned v ∧ s.post enc C.prog fn apart fresh handsOn again W args v W') :
 ReturnsInHanded a C os f .any (fun w args => (s.pre enc C.prog fn conds apart w args ∧ X w args) ∧ sizedMet enc C.prog fn (OpenSpec.ofChange s) apart w args) (s.post enc C.prog fn apart fresh handsOn again) := by
 refine returnsInHanded_of_calls own started noInit witness (fun w tape i _ hsh _ hok hpre _ => ?_)
 obtain ⟨_, _, _, fn', hfn', _, _, _, _, hval⟩ := hok
 obtain rfl := Option.some.inj (hfn'.symm.trans hfn)
 obtain ⟨⟨⟨ds, gs, before, hw, _⟩, hx⟩, _⟩ := hpre
 refine (walk _ w.heap.size i.args ds gs before hval (DataW.Whole.of_heap (w' := w.forCall tape i) (by rfl) hw) (hX _ _ _ (by rfl) hx) hsh).mono fun e W' h => ?_
 obtain ⟨v, rfl, hp⟩ := h
 exact ChangeSpec.post_blind hp
end Go.Proofs.YtndjcmclmhoigaaGreatDoor
namespace Go.Proofs.YtndjcmclmhoigaaGreatDoor
open Go.ChangeShapes Go.WideShapes Go.ChangeAt Go.RowKit
set_option maxRecDepth 100000

theorem gFirst : Tryz.prog.globalNamed "circa/runsets.first" = some 0 := by kernel_rfl
theorem gLast : Tryz.prog.globalNamed "circa/runsets.last" = some 1 := by kernel_rfl
theorem gFirstType : (Tryz.prog.globals[0]?).map (·.type) = some 24 := by kernel_rfl
theorem gLastType : (Tryz.prog.globals[1]?).map (·.type) = some 24 := by kernel_rfl
theorem laid_first {W : World} {r1 : List (String × DataW Unit)} (h : laidMet Tryz.prog (("circa/runsets.first", Rows.laid_circa_runsets_first) :: r1) W) :
 ∃ t fr, W.heap[0]? = some (.cells #[.int .i8 (-1), .int .i64 0] t fr) := by
 obtain ⟨ps, ⟨g', t', cs, fuel, p, q, hg', ht', hvar, hd, _, _⟩, _⟩ := h
 obtain rfl := Option.some.inj (gFirst.symm.trans hg')
 obtain rfl := Option.some.inj (gFirstType.symm.trans ht')
 obtain rfl := lend_of hd rfl
 exact heap_of_var gFirst hvar
theorem laid_last {W : World} {r1 : List (String × DataW Unit)} (h : laidMet Tryz.prog (("circa/runsets.last", Rows.laid_circa_runsets_last) :: r1) W) :
 ∃ t fr, W.heap[1]? = some (.cells #[.int .i8 1, .int .i64 0] t fr) := by
 obtain ⟨ps, ⟨g', t', cs, fuel, p, q, hg', ht', hvar, hd, _, _⟩, _⟩ := h
 obtain rfl := Option.some.inj (gLast.symm.trans hg')
 obtain rfl := Option.some.inj (gLastType.symm.trans ht')
 obtain rfl := lend_of hd rfl
 exact heap_of_var gLast hvar
/-- the variables that are listed -/
structure VarRs (W : World) : Prop where
 en : LaidEn W
 f : ∃ t fr, W.heap[0]? = some (.cells #[.int .i8 (-1), .int .i64 0] t fr)
 l : ∃ t fr, W.heap[1]? = some (.cells #[.int .i8 1, .int .i64 0] t fr)
theorem laid_ru {W : World} {r1 r2 r3 r4 r5 r6 : List (String × DataW Unit)} (h1 : laidMet Tryz.prog (("circa/ends.greatest", Rows.laid_circa_ends_greatest) :: r1) W) (h2 : laidMet Tryz.prog (("circa/ends.least", Rows.laid_circa_ends_least) :: r2) W)
 (h3 : laidMet Tryz.prog (("strconv.ErrRange", Rows.laid_strconv_ErrRange) :: r3) W) (h4 : laidMet Tryz.prog (("internal/strconv.uint64pow10", Rows.laid_internal_strconv_uint64pow10) :: r4) W)
 (h5 : laidMet Tryz.prog (("circa/runsets.first", Rows.laid_circa_runsets_first) :: r5) W) (h6 : laidMet Tryz.prog (("circa/runsets.last", Rows.laid_circa_runsets_last) :: r6) W) : VarRs W := ⟨laid_en h1 h2 h3 h4, laid_first h5, laid_last h6⟩
theorem laid_rs {W : World} (h : VarRs W) (hs : W.ShapedOpen Tryz.prog) : LaidRs W := by
 obtain ⟨_, _, a⟩ := h.f
 obtain ⟨_, _, b⟩ := h.l
 exact ⟨laid_rn h.en hs, by rw [cell_of_row _ _ 0 _ _ _ a]; rfl, by rw [cell_of_row _ _ 1 _ _ _ a]; rfl, by rw [cell_of_row _ _ 0 _ _ _ b]; rfl, by rw [cell_of_row _ _ 1 _ _ _ b]; rfl,
  (Array.getElem?_eq_some_iff.1 a).1, (Array.getElem?_eq_some_iff.1 b).1⟩
end Go.Proofs.YtndjcmclmhoigaaGreatDoor
namespace Go.Proofs.YtndjcmclmhoigaaGreatDoor
open Go.ChangeShapes Go.WideShapes Go.ChangeAt Go.RowKit
set_option maxRecDepth 100000

theorem cells_Run4 : Tryz.prog.cellsOf 26 = 4 := by kernel_rfl
instance : Inhabited Rn := ⟨zeroR⟩
theorem open_Rs {H : Type} {enc : TypeId × Value → H} {W : World} {base : Nat} {v : Value} {d : DataW H} {p : List MemPlace}
 (hv : Value.okWide Tryz.prog W .any base 60 v) (h : DataW.Trod enc Tryz.prog W 0 (fun _ => true) true 60 v d p) :
 ∃ a l cap, v = .slice a (List.length l) cap ∧ ArgL W a l cap := by
 obtain ⟨fuel, hf⟩ := h
 obtain ⟨b, b_len, b_cap, rfl⟩ := okWide_slice Tryz.underlying60 hv
 rcases Go.Deep.open_slice Tryz.underlying60 hf with ⟨hcs, _⟩ | ⟨a, len, cap, m, k, D, Pl, hcs, _, hlc, hcm, hm, hx, hel⟩
 ·simp [Value.cells] at hcs
  obtain ⟨rfl, rfl, rfl⟩ := hcs
  exact ⟨none, [], 0, rfl, ⟨⟨Below.refl _ _, (fun p r h => by simp at h)⟩, (fun r h => by cases h), by decide, by decide, fun _ => ⟨rfl, rfl⟩⟩⟩
 ·simp [Value.cells] at hcs
  obtain ⟨rfl, rfl, rfl⟩ := hcs
  simp only [if_true] at hm
  subst hm
  have each : ∀ i, i < b_len → ∃ q : Rn, q.In ∧ W.cell? (a.add (i * 4)) = some (.int .i8 q.f) ∧ W.cell? (a.add (i * 4 + 1)) = some (.int .i64 q.d) ∧ W.cell? (a.add (i * 4 + 2)) = some (.int .i8 q.g) ∧ W.cell? (a.add (i * 4 + 3)) = some (.int .i64 q.e) := by
   intro i hi
   obtain ⟨cs', h1, h2⟩ := hel i (by omega)
   rw [cells_Run4] at h1
   obtain ⟨_, hlen, hcell⟩ := World.cells?_some h1
   obtain ⟨c0, c1, c2, c3, rfl⟩ : ∃ c0 c1 c2 c3, cs' = [c0, c1, c2, c3] := by
    match cs', hlen with
    | [c0, c1, c2, c3], _ => exact ⟨c0, c1, c2, c3, rfl⟩
   obtain ⟨y0, y1, k', _, _, g0, g1⟩ := trod_struct2 Tryz.underlying26 h2
   simp only [cells_End] at g0 g1
   obtain ⟨f, d, rfl, rfl, hb⟩ := end_of (c0 := c0) (c1 := c1) g0
   obtain ⟨g, e, rfl, rfl, hb2⟩ := end_of (c0 := c2) (c1 := c3) g1
   have e0 := hcell 0 (by omega)
   have e1 := hcell 1 (by omega)
   have e2 := hcell 2 (by omega)
   have e3 := hcell 3 (by omega)
   rw [Go.Deep.add_add] at e0 e1 e2 e3
   exact ⟨⟨f, d, g, e⟩, ⟨hb.1, hb.2, hb2.1, hb2.2⟩, e0, e1, e2, e3⟩
  obtain ⟨q, hq⟩ := Go.Deep.choose_lt each
  have hl : ((List.range b_len).map q).length = b_len := by simp
  refine ⟨some a, (List.range b_len).map q, m, by rw [hl], ⟨⟨Below.refl _ _, fun p r hp => ?_⟩, fun r hr => ?_, by rw [hl]; omega, by omega, fun e => (by cases e)⟩⟩
  ·have hp0 := (List.getElem?_eq_some_iff.1 hp).1
   rw [hl] at hp0
   have hr : r = q p := by simp [hp0] at hp; exact hp.symm
   subst hr
   obtain ⟨_, e0, e1, e2, e3⟩ := hq p hp0
   obtain ⟨g, o, spot⟩ := a
   have hspot : spot = none := by
    have := World.cell?_spot (hq 0 (by omega)).2.1
    simpa [Addr.add] using this
   subst hspot
   have hadd : ∀ j, (⟨g, o, none⟩ : Addr).add j = ⟨g, o + j, none⟩ := fun j => by
    unfold Addr.add
    by_cases h0 : j = 0
    ·rw [if_pos h0, h0]; rfl
    ·rw [if_neg h0]
   rw [hadd] at e0 e1 e2 e3
   exact ⟨g, o, rfl, World.block_lt_of_cell? W ⟨g, o + p * 4, none⟩ e0, e0, by rw [Nat.add_assoc]; exact e1, by rw [Nat.add_assoc]; exact e2, by rw [Nat.add_assoc]; exact e3⟩
  ·obtain ⟨i, hi, rfl⟩ := List.mem_map.1 hr
   exact (hq i (List.mem_range.1 hi)).1
end Go.Proofs.YtndjcmclmhoigaaGreatDoor
