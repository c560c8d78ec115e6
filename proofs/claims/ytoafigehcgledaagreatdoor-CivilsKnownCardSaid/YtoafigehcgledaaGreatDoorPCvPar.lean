/-
  DERIVED. CONTRACT of package civils: Parse: the blocks of its frame, the door, the walks. Written by mkcvpar.py.
-/
import Derived.Test.YtoafigehcgledaaGreatDoorPCvCut
namespace Go.Proofs.YtoafigehcgledaaGreatDoor
open Go.RowKit
set_option maxRecDepth 100000

/-- the blocks of Parse's frame: the civil day, the error, what is left of the text -/
structure PW (w : World) (y m d e : Int) (z : List UInt8) (W : World) : Prop where
  below : Below w.heap.size w W
  size : w.heap.size + 1 + 1 < W.heap.size
  hc : W.heap[w.heap.size]? = some (.cells #[.int .i64 y, .int .i64 m, .int .i64 d] 23 (0, 0))
  he : W.heap[w.heap.size + 1]? = some (.cells #[.int .i64 e] 24 (0, 0))
  hz : W.heap[w.heap.size + 1 + 1]? = some (.cells #[.string (bs z)] 79 (0, 0))
section
variable {w W W' : World} {y m d e : Int} {z : List UInt8}
theorem PW.c0 (h : PW w y m d e z W) : W.cell? ⟨w.heap.size, 0, none⟩ = some (.int .i64 y) := by rw [cell_of_row W _ 0 _ _ _ h.hc]; rfl
theorem PW.c1 (h : PW w y m d e z W) : W.cell? ⟨w.heap.size, 1, none⟩ = some (.int .i64 m) := by rw [cell_of_row W _ 1 _ _ _ h.hc]; rfl
theorem PW.c2 (h : PW w y m d e z W) : W.cell? ⟨w.heap.size, 2, none⟩ = some (.int .i64 d) := by rw [cell_of_row W _ 2 _ _ _ h.hc]; rfl
theorem PW.f (h : PW w y m d e z W) (i : Nat) : W.frozen? ⟨w.heap.size, i, none⟩ = false := frozen_of_row W _ i _ _ h.hc
theorem PW.ce (h : PW w y m d e z W) : W.cell? ⟨w.heap.size + 1, 0, none⟩ = some (.int .i64 e) := by rw [cell_of_row W _ 0 _ _ _ h.he]; rfl
theorem PW.fe (h : PW w y m d e z W) : W.frozen? ⟨w.heap.size + 1, 0, none⟩ = false := frozen_of_row W _ 0 _ _ h.he
theorem PW.cz (h : PW w y m d e z W) : W.cell? ⟨w.heap.size + 1 + 1, 0, none⟩ = some (.string (bs z)) := by rw [cell_of_row W _ 0 _ _ _ h.hz]; rfl
theorem PW.fz (h : PW w y m d e z W) : W.frozen? ⟨w.heap.size + 1 + 1, 0, none⟩ = false := frozen_of_row W _ 0 _ _ h.hz
theorem PW.step (h : PW w y m d e z W) (hb : Below W.heap.size W W') : PW w y m d e z W' := by
  have hs := h.size
  exact ⟨h.below.trans (hb.mono h.below.size), by have := hb.size; omega, by rw [hb.block _ (by omega)]; exact h.hc, by rw [hb.block _ (by omega)]; exact h.he, by rw [hb.block _ (by omega)]; exact h.hz⟩
theorem size_setCell (W : World) (a : Addr) (v : Value) : (W.setCell a v).heap.size = W.heap.size := by simp [World.setCell]
theorem PW.setz (h : PW w y m d e z W) (z' : List UInt8) : PW w y m d e z' (W.setCell ⟨w.heap.size + 1 + 1, 0, none⟩ (.string (bs z'))) :=
  ⟨h.below.setCell (show w.heap.size ≤ w.heap.size + 1 + 1 by omega) _, by rw [size_setCell]; exact h.size, by rw [heap_setCell_other W _ _ _ (show w.heap.size ≠ w.heap.size + 1 + 1 by omega)]; exact h.hc,
   by rw [heap_setCell_other W _ _ _ (show w.heap.size + 1 ≠ w.heap.size + 1 + 1 by omega)]; exact h.he, heap_setCell_same W _ 0 _ _ _ h.hz⟩
theorem PW.set0 (h : PW w y m d e z W) (v : Int) : PW w v m d e z (W.setCell ⟨w.heap.size, 0, none⟩ (.int .i64 v)) :=
  ⟨h.below.setCell (Nat.le_refl _) _, by rw [size_setCell]; exact h.size, heap_setCell_same W _ 0 _ _ _ h.hc,
   by rw [heap_setCell_other W _ _ _ (show w.heap.size + 1 ≠ w.heap.size by omega)]; exact h.he, by rw [heap_setCell_other W _ _ _ (show w.heap.size + 1 + 1 ≠ w.heap.size by omega)]; exact h.hz⟩
theorem PW.set1 (h : PW w y m d e z W) (v : Int) : PW w y v d e z (W.setCell ⟨w.heap.size, 1, none⟩ (.int .i64 v)) :=
  ⟨h.below.setCell (Nat.le_refl _) _, by rw [size_setCell]; exact h.size, heap_setCell_same W _ 1 _ _ _ h.hc,
   by rw [heap_setCell_other W _ _ _ (show w.heap.size + 1 ≠ w.heap.size by omega)]; exact h.he, by rw [heap_setCell_other W _ _ _ (show w.heap.size + 1 + 1 ≠ w.heap.size by omega)]; exact h.hz⟩
theorem PW.set2 (h : PW w y m d e z W) (v : Int) : PW w y m v e z (W.setCell ⟨w.heap.size, 2, none⟩ (.int .i64 v)) :=
  ⟨h.below.setCell (Nat.le_refl _) _, by rw [size_setCell]; exact h.size, heap_setCell_same W _ 2 _ _ _ h.hc,
   by rw [heap_setCell_other W _ _ _ (show w.heap.size + 1 ≠ w.heap.size by omega)]; exact h.he, by rw [heap_setCell_other W _ _ _ (show w.heap.size + 1 + 1 ≠ w.heap.size by omega)]; exact h.hz⟩
theorem PW.sete (h : PW w y m d e z W) (v : Int) : PW w y m d v z (W.setCell ⟨w.heap.size + 1, 0, none⟩ (.int .i64 v)) :=
  ⟨h.below.setCell (show w.heap.size ≤ w.heap.size + 1 by omega) _, by rw [size_setCell]; exact h.size, by rw [heap_setCell_other W _ _ _ (show w.heap.size ≠ w.heap.size + 1 by omega)]; exact h.hc,
   heap_setCell_same W _ 0 _ _ _ h.he, by rw [heap_setCell_other W _ _ _ (show w.heap.size + 1 + 1 ≠ w.heap.size + 1 by omega)]; exact h.hz⟩
theorem PW.setRow (h : PW w y m d e z W) (a b c : Int) : PW w a b c e z (W.setRow (w.heap.size) #[.int .i64 a, .int .i64 b, .int .i64 c]) :=
  ⟨below_setRow h.below (Nat.le_refl _) _, by simp [World.setRow]; exact h.size, setRow_heap W _ _ _ _ _ h.hc, by rw [setRow_other W _ _ _ (show w.heap.size + 1 ≠ w.heap.size by omega)]; exact h.he, by rw [setRow_other W _ _ _ (show w.heap.size + 1 + 1 ≠ w.heap.size by omega)]; exact h.hz⟩
theorem PW.set3 (h : PW w y m d e z W) (a b c : Int) : PW w a b c e z (World.set3 W w.heap.size a b c) := ((h.set0 a).set1 b).set2 c
end
theorem pw_new (w : World) (l : List UInt8) : PW w 0 0 0 0 l (((w.alloc (.cells #[.int .i64 0, .int .i64 0, .int .i64 0] 23)).alloc (.cells #[.int .i64 0] 24)).alloc (.cells #[.string (bs l)] 79)) := by
  have s1 : ∀ (W : World) (O : Obj), (W.alloc O).heap.size = W.heap.size + 1 := fun W O => by simp
  refine ⟨below3 _ _ _ _, by rw [s1, s1, s1]; omega, ?_, ?_, ?_⟩
  · rw [heap_alloc_old _ _ (by rw [s1, s1]; omega), heap_alloc_old _ _ (by rw [s1]; omega)]; exact heap_alloc_new _ _
  · rw [heap_alloc_old _ _ (by rw [s1, s1]; omega)]
    have := heap_alloc_new (w.alloc (.cells #[.int .i64 0, .int .i64 0, .int .i64 0] 23)) (.cells #[.int .i64 0] 24)
    rw [s1] at this
    exact this
  · have := heap_alloc_new ((w.alloc (.cells #[.int .i64 0, .int .i64 0, .int .i64 0] 23)).alloc (.cells #[.int .i64 0] 24)) (.cells #[.string (bs l)] 79)
    rw [s1, s1] at this
    exact this
theorem load_err {w W : World} {y m d e : Int} {z : List UInt8} (h : PW w y m d e z W) : (loadVar 24 ⟨w.heap.size + 1, 0, none⟩).run Tryz.prog W = .ok (.int .i64 e) W := by
  have hc := h.ce
  simp [loadVar, go_sem, hc]
/-- two results in blocks -/
theorem results_cells {P : Program} {fn : Func} {p q : Tmp} {ty u : TypeId} (h : fn.results = #[.cell p ty, .cell q u]) (tmps : Array Value) (w : World) (g : Nat) (t : TypeId) (cs : Array Value) (fr : Nat × Nat) (d : TypeDesc) (a : Addr) (x : Value)
    (hp : tmps.getD p undef = .pointer (some ⟨g, 0, none⟩)) (hq : tmps.getD q undef = .pointer (some a)) (hg : w.heap[g]? = some (.cells cs t fr))
    (hu : P.underlying ty = some d) (hd : (match d with | .struct _ | .array _ _ => true | _ => false) = true) (hi : (P.info? ty).map (·.size) = some cs.size)
    (hx : (loadVar u a).run P w = .ok x w) : (results fn tmps).run P w = .ok (.tuple #[.agg cs, x]) w := by
  have hp' : tmps[p]?.getD undef = .pointer (some ⟨g, 0, none⟩) := by simpa using hp
  have hq' : tmps[q]?.getD undef = .pointer (some a) := by simpa using hq
  simp [results, h, hp', hq', asAddr, run_loadVar_row w g t ty cs fr d hg hu hd hi, hx]
theorem par_results {w W : World} {y m d e : Int} {z : List UInt8} (h : PW w y m d e z W) (tmps : Array Value) (hp : tmps.getD 2 undef = .pointer (some ⟨w.heap.size, 0, none⟩)) (hq : tmps.getD 3 undef = .pointer (some ⟨w.heap.size + 1, 0, none⟩)) :
    (results Tryz.f28 tmps).run Tryz.prog W = .ok (.tuple #[.agg #[.int .i64 y, .int .i64 m, .int .i64 d], .int .i64 e]) W :=
  results_cells (p := 2) (q := 3) (ty := 23) (u := 24) rfl tmps W w.heap.size 23 #[.int .i64 y, .int .i64 m, .int .i64 d] (0, 0) _ _ _ hp hq h.hc Tryz.underlying23 rfl infoCv (load_err h)
/-- the door: a panic with an error is recovered -/
theorem par_pan {w W : World} {y m d e c : Int} {z : List UInt8} {tmps : Array Value} {R : Ending → World → Prop} (h : PW w y m d e z W) (hp : tmps.getD 2 undef = .pointer (some ⟨w.heap.size, 0, none⟩)) (hq : tmps.getD 3 undef = .pointer (some ⟨w.heap.size + 1, 0, none⟩))
    (hR : ∀ W', Below w.heap.size w W' → R (.returned (.tuple #[.agg #[.int .i64 0, .int .i64 0, .int .i64 0], .int .i64 c])) W') :
    Leaves Tryz.prog Tryz.f28 tmps R [{ target := .fn (.func 49) #[.pointer (some ⟨w.heap.size, 0, none⟩), .pointer (some ⟨w.heap.size + 1, 0, none⟩)], args := #[] }] (.panicking [{ v := .iface 24 (.int .i64 c), recovered := false }]) W := by
  refine leaves_cons (f := 49) (args := #[.pointer (some ⟨w.heap.size, 0, none⟩), .pointer (some ⟨w.heap.size + 1, 0, none⟩)]) (by simp) (by simp [go_sem]) ?_
  refine (catch_panicking (c := c) (w.heap.size) (w.heap.size + 1) [] W h.c0 h.c1 h.c2 (h.f 0) (h.f 1) (h.f 2) h.ce h.fe (by omega)).mono ?_
  rintro e' u' w'' ⟨rfl, rfl, rfl⟩
  have h2 := (h.set3 0 0 0).sete c
  exact ⟨_, par_results h2 tmps hp hq, hR _ h2.below⟩
/-- the door: nothing is to be recovered -/
theorem par_ret {w W : World} {y m d e : Int} {z : List UInt8} {tmps : Array Value} {R : Ending → World → Prop} (h : PW w y m d e z W) (hp : tmps.getD 2 undef = .pointer (some ⟨w.heap.size, 0, none⟩)) (hq : tmps.getD 3 undef = .pointer (some ⟨w.heap.size + 1, 0, none⟩))
    (hR : ∀ W', Below w.heap.size w W' → R (.returned (.tuple #[.agg #[.int .i64 y, .int .i64 m, .int .i64 d], .int .i64 e])) W') :
    Leaves Tryz.prog Tryz.f28 tmps R [{ target := .fn (.func 49) #[.pointer (some ⟨w.heap.size, 0, none⟩), .pointer (some ⟨w.heap.size + 1, 0, none⟩)], args := #[] }] .returning W := by
  refine leaves_cons (f := 49) (args := #[.pointer (some ⟨w.heap.size, 0, none⟩), .pointer (some ⟨w.heap.size + 1, 0, none⟩)]) (by simp) (by simp [go_sem]) ?_
  refine (catch_idle _ _ W).mono ?_
  rintro e' u' w'' ⟨rfl, rfl, rfl⟩
  exact ⟨_, par_results h tmps hp hq, hR _ h.below⟩
set_option maxHeartbeats 2000000 in
theorem par_1 {l : List UInt8} {k1 : Nat} (hl : l.length ≤ 100) (w : World) (hk1 : l.length - 3 = k1) (hp1 : ¬ ∃ p, l.drop k1 = 45 :: p) :
    Calls Tryz.prog 28 #[.string (bs l)] w fun x w' => x = .returned (.tuple #[.agg #[.int .i64 0, .int .i64 0, .int .i64 0], .int .i64 5]) ∧ Below w.heap.size w w' := by
  have hmf : ∀ (fn : Fn) (first cap : Array Value) (w : World), (Instr.makeFunc fn first cap).run Tryz.prog w = .ok (.func fn first cap) w := fun _ _ _ _ => rfl
  have HP := Kp.mk (pw_new w l)
  have c1 := Kp.mk (fun g W h1 => cut_no (by omega) hk1 hp1 g W h1)
  clear hl hk1 hp1
  go_enter_defers Tryz.func28, Tryz.ntmps28
  go_upto_region 3 with fail
  generalize ((w.alloc (.cells #[.int .i64 0, .int .i64 0, .int .i64 0] 23)).alloc (.cells #[.int .i64 0] 24)).alloc (.cells #[.string (bs l)] 79) = w0 at *
  have kz := HP.out.cz
  have fz := HP.out.fz
  go_wp2_with fail
  refine (c1.out _ _ kz).mono ?_
  rintro e w' ⟨rfl, rfl⟩
  go_wp2_with fail
  exact par_pan HP.out rfl rfl (fun _ h => ⟨rfl, h⟩)
set_option maxHeartbeats 2000000 in
theorem par_2 {l : List UInt8} {p1 z1 : List UInt8} {k1 : Nat} (hl : l.length ≤ 100) (w : World) (hk1 : l.length - 3 = k1) (hz1 : l.take k1 = z1) (hp1 : l.drop k1 = 45 :: p1) (hn1 : (∀ W, Calls Tryz.prog 51 #[.string ⟨#[]⟩, .string (bs p1), .int .i64 2] W fun e w' => e = pan 5 ∧ Below W.heap.size W w')) :
    Calls Tryz.prog 28 #[.string (bs l)] w fun x w' => x = .returned (.tuple #[.agg #[.int .i64 0, .int .i64 0, .int .i64 0], .int .i64 5]) ∧ Below w.heap.size w w' := by
  have hmf : ∀ (fn : Fn) (first cap : Array Value) (w : World), (Instr.makeFunc fn first cap).run Tryz.prog w = .ok (.func fn first cap) w := fun _ _ _ _ => rfl
  have HP := Kp.mk (pw_new w l)
  have c1 := Kp.mk (fun g W h1 h2 => cut_yes (by omega) hk1 hz1 hp1 g W h1 h2)
  have n1 := Kp.mk hn1
  clear hl hk1 hz1 hp1 hn1
  go_enter_defers Tryz.func28, Tryz.ntmps28
  go_upto_region 3 with fail
  generalize ((w.alloc (.cells #[.int .i64 0, .int .i64 0, .int .i64 0] 23)).alloc (.cells #[.int .i64 0] 24)).alloc (.cells #[.string (bs l)] 79) = w0 at *
  have kz := HP.out.cz
  have fz := HP.out.fz
  go_wp2_with fail
  refine (c1.out _ _ kz fz).mono ?_
  rintro e w' ⟨rfl, rfl⟩
  clear kz fz
  have HP := Kp.mk (HP.out.setz z1)
  generalize World.setCell w0 ⟨w.heap.size + 1 + 1, 0, none⟩ (.string (bs z1)) = u1 at *
  go_wp2_with fail
  refine (n1.out _).mono ?_
  rintro e u2 ⟨rfl, hbl⟩
  have HP := Kp.mk (HP.out.step hbl)
  clear hbl
  go_wp2_with fail
  exact par_pan HP.out rfl rfl (fun _ h => ⟨rfl, h⟩)
set_option maxHeartbeats 2000000 in
theorem par_3 {l : List UInt8} {p1 z1 : List UInt8} {k1 k2 : Nat} {v1 : Int} (hl : l.length ≤ 100) (w : World) (hk1 : l.length - 3 = k1) (hz1 : l.take k1 = z1) (hp1 : l.drop k1 = 45 :: p1) (hn1 : (∀ W, Calls Tryz.prog 51 #[.string ⟨#[]⟩, .string (bs p1), .int .i64 2] W fun e w' => e = .returned (.int .i64 v1) ∧ Below W.heap.size W w')) (hk2 : z1.length - 3 = k2) (hp2 : ¬ ∃ p, z1.drop k2 = 45 :: p) :
    Calls Tryz.prog 28 #[.string (bs l)] w fun x w' => x = .returned (.tuple #[.agg #[.int .i64 0, .int .i64 0, .int .i64 0], .int .i64 5]) ∧ Below w.heap.size w w' := by
  have hmf : ∀ (fn : Fn) (first cap : Array Value) (w : World), (Instr.makeFunc fn first cap).run Tryz.prog w = .ok (.func fn first cap) w := fun _ _ _ _ => rfl
  have HP := Kp.mk (pw_new w l)
  have hl2 : z1.length ≤ 1000 := by rw [← hz1]; have := (List.take_sublist k1 l).length_le; omega
  have c1 := Kp.mk (fun g W h1 h2 => cut_yes (by omega) hk1 hz1 hp1 g W h1 h2)
  have c2 := Kp.mk (fun g W h1 => cut_no hl2 hk2 hp2 g W h1)
  have n1 := Kp.mk hn1
  clear hl hl2 hk1 hz1 hp1 hn1 hk2 hp2
  go_enter_defers Tryz.func28, Tryz.ntmps28
  go_upto_region 3 with fail
  generalize ((w.alloc (.cells #[.int .i64 0, .int .i64 0, .int .i64 0] 23)).alloc (.cells #[.int .i64 0] 24)).alloc (.cells #[.string (bs l)] 79) = w0 at *
  have kz := HP.out.cz
  have fz := HP.out.fz
  go_wp2_with fail
  refine (c1.out _ _ kz fz).mono ?_
  rintro e w' ⟨rfl, rfl⟩
  clear kz fz
  have HP := Kp.mk (HP.out.setz z1)
  generalize World.setCell w0 ⟨w.heap.size + 1 + 1, 0, none⟩ (.string (bs z1)) = u1 at *
  go_wp2_with fail
  refine (n1.out _).mono ?_
  rintro e u2 ⟨rfl, hbl⟩
  have HP := Kp.mk (HP.out.step hbl)
  clear hbl
  have kf := HP.out.c2
  have ff := HP.out.f 2
  go_upto_region 5 with fail
  clear kf ff
  have HP := Kp.mk (HP.out.set2 v1)
  generalize World.setCell u2 ⟨w.heap.size, 2, none⟩ (.int .i64 v1) = u3 at *
  have kz := HP.out.cz
  have fz := HP.out.fz
  go_wp2_with fail
  refine (c2.out _ _ kz).mono ?_
  rintro e w' ⟨rfl, rfl⟩
  go_wp2_with fail
  exact par_pan HP.out rfl rfl (fun _ h => ⟨rfl, h⟩)
set_option maxHeartbeats 2000000 in
theorem par_4 {l : List UInt8} {p1 z1 p2 z2 : List UInt8} {k1 k2 : Nat} {v1 : Int} (hl : l.length ≤ 100) (w : World) (hk1 : l.length - 3 = k1) (hz1 : l.take k1 = z1) (hp1 : l.drop k1 = 45 :: p1) (hn1 : (∀ W, Calls Tryz.prog 51 #[.string ⟨#[]⟩, .string (bs p1), .int .i64 2] W fun e w' => e = .returned (.int .i64 v1) ∧ Below W.heap.size W w')) (hk2 : z1.length - 3 = k2) (hz2 : z1.take k2 = z2) (hp2 : z1.drop k2 = 45 :: p2) (hn2 : (∀ W, Calls Tryz.prog 51 #[.string ⟨#[]⟩, .string (bs p2), .int .i64 2] W fun e w' => e = pan 5 ∧ Below W.heap.size W w')) :
    Calls Tryz.prog 28 #[.string (bs l)] w fun x w' => x = .returned (.tuple #[.agg #[.int .i64 0, .int .i64 0, .int .i64 0], .int .i64 5]) ∧ Below w.heap.size w w' := by
  have hmf : ∀ (fn : Fn) (first cap : Array Value) (w : World), (Instr.makeFunc fn first cap).run Tryz.prog w = .ok (.func fn first cap) w := fun _ _ _ _ => rfl
  have HP := Kp.mk (pw_new w l)
  have hl2 : z1.length ≤ 1000 := by rw [← hz1]; have := (List.take_sublist k1 l).length_le; omega
  have c1 := Kp.mk (fun g W h1 h2 => cut_yes (by omega) hk1 hz1 hp1 g W h1 h2)
  have c2 := Kp.mk (fun g W h1 h2 => cut_yes hl2 hk2 hz2 hp2 g W h1 h2)
  have n1 := Kp.mk hn1
  have n2 := Kp.mk hn2
  clear hl hl2 hk1 hz1 hp1 hn1 hk2 hz2 hp2 hn2
  go_enter_defers Tryz.func28, Tryz.ntmps28
  go_upto_region 3 with fail
  generalize ((w.alloc (.cells #[.int .i64 0, .int .i64 0, .int .i64 0] 23)).alloc (.cells #[.int .i64 0] 24)).alloc (.cells #[.string (bs l)] 79) = w0 at *
  have kz := HP.out.cz
  have fz := HP.out.fz
  go_wp2_with fail
  refine (c1.out _ _ kz fz).mono ?_
  rintro e w' ⟨rfl, rfl⟩
  clear kz fz
  have HP := Kp.mk (HP.out.setz z1)
  generalize World.setCell w0 ⟨w.heap.size + 1 + 1, 0, none⟩ (.string (bs z1)) = u1 at *
  go_wp2_with fail
  refine (n1.out _).mono ?_
  rintro e u2 ⟨rfl, hbl⟩
  have HP := Kp.mk (HP.out.step hbl)
  clear hbl
  have kf := HP.out.c2
  have ff := HP.out.f 2
  go_upto_region 5 with fail
  clear kf ff
  have HP := Kp.mk (HP.out.set2 v1)
  generalize World.setCell u2 ⟨w.heap.size, 2, none⟩ (.int .i64 v1) = u3 at *
  have kz := HP.out.cz
  have fz := HP.out.fz
  go_wp2_with fail
  refine (c2.out _ _ kz fz).mono ?_
  rintro e w' ⟨rfl, rfl⟩
  clear kz fz
  have HP := Kp.mk (HP.out.setz z2)
  generalize World.setCell u3 ⟨w.heap.size + 1 + 1, 0, none⟩ (.string (bs z2)) = u4 at *
  go_wp2_with fail
  refine (n2.out _).mono ?_
  rintro e u5 ⟨rfl, hbl⟩
  have HP := Kp.mk (HP.out.step hbl)
  clear hbl
  go_wp2_with fail
  exact par_pan HP.out rfl rfl (fun _ h => ⟨rfl, h⟩)
set_option maxHeartbeats 2000000 in
theorem par_5 {l : List UInt8} {p1 z1 p2 z2 : List UInt8} {k1 k2 : Nat} {v1 v2 c : Int} (hl : l.length ≤ 100) (w : World) (hk1 : l.length - 3 = k1) (hz1 : l.take k1 = z1) (hp1 : l.drop k1 = 45 :: p1) (hn1 : (∀ W, Calls Tryz.prog 51 #[.string ⟨#[]⟩, .string (bs p1), .int .i64 2] W fun e w' => e = .returned (.int .i64 v1) ∧ Below W.heap.size W w')) (hk2 : z1.length - 3 = k2) (hz2 : z1.take k2 = z2) (hp2 : z1.drop k2 = 45 :: p2) (hn2 : (∀ W, Calls Tryz.prog 51 #[.string ⟨#[]⟩, .string (bs p2), .int .i64 2] W fun e w' => e = .returned (.int .i64 v2) ∧ Below W.heap.size W w')) (hy : (∀ W, Below w.heap.size w W → Calls Tryz.prog 52 #[.string (bs z2)] W fun e w' => e = pan c ∧ Below W.heap.size W w')) :
    Calls Tryz.prog 28 #[.string (bs l)] w fun x w' => x = .returned (.tuple #[.agg #[.int .i64 0, .int .i64 0, .int .i64 0], .int .i64 c]) ∧ Below w.heap.size w w' := by
  have hmf : ∀ (fn : Fn) (first cap : Array Value) (w : World), (Instr.makeFunc fn first cap).run Tryz.prog w = .ok (.func fn first cap) w := fun _ _ _ _ => rfl
  have HP := Kp.mk (pw_new w l)
  have hl2 : z1.length ≤ 1000 := by rw [← hz1]; have := (List.take_sublist k1 l).length_le; omega
  have c1 := Kp.mk (fun g W h1 h2 => cut_yes (by omega) hk1 hz1 hp1 g W h1 h2)
  have c2 := Kp.mk (fun g W h1 h2 => cut_yes hl2 hk2 hz2 hp2 g W h1 h2)
  have n1 := Kp.mk hn1
  have n2 := Kp.mk hn2
  have yr := Kp.mk hy
  clear hl hl2 hk1 hz1 hp1 hn1 hk2 hz2 hp2 hn2 hy
  go_enter_defers Tryz.func28, Tryz.ntmps28
  go_upto_region 3 with fail
  generalize ((w.alloc (.cells #[.int .i64 0, .int .i64 0, .int .i64 0] 23)).alloc (.cells #[.int .i64 0] 24)).alloc (.cells #[.string (bs l)] 79) = w0 at *
  have kz := HP.out.cz
  have fz := HP.out.fz
  go_wp2_with fail
  refine (c1.out _ _ kz fz).mono ?_
  rintro e w' ⟨rfl, rfl⟩
  clear kz fz
  have HP := Kp.mk (HP.out.setz z1)
  generalize World.setCell w0 ⟨w.heap.size + 1 + 1, 0, none⟩ (.string (bs z1)) = u1 at *
  go_wp2_with fail
  refine (n1.out _).mono ?_
  rintro e u2 ⟨rfl, hbl⟩
  have HP := Kp.mk (HP.out.step hbl)
  clear hbl
  have kf := HP.out.c2
  have ff := HP.out.f 2
  go_upto_region 5 with fail
  clear kf ff
  have HP := Kp.mk (HP.out.set2 v1)
  generalize World.setCell u2 ⟨w.heap.size, 2, none⟩ (.int .i64 v1) = u3 at *
  have kz := HP.out.cz
  have fz := HP.out.fz
  go_wp2_with fail
  refine (c2.out _ _ kz fz).mono ?_
  rintro e w' ⟨rfl, rfl⟩
  clear kz fz
  have HP := Kp.mk (HP.out.setz z2)
  generalize World.setCell u3 ⟨w.heap.size + 1 + 1, 0, none⟩ (.string (bs z2)) = u4 at *
  go_wp2_with fail
  refine (n2.out _).mono ?_
  rintro e u5 ⟨rfl, hbl⟩
  have HP := Kp.mk (HP.out.step hbl)
  clear hbl
  have kf := HP.out.c1
  have ff := HP.out.f 1
  go_upto_region 6 with fail
  clear kf ff
  have HP := Kp.mk (HP.out.set1 v2)
  generalize World.setCell u5 ⟨w.heap.size, 1, none⟩ (.int .i64 v2) = u6 at *
  have kz := HP.out.cz
  have fz := HP.out.fz
  go_wp2_with fail
  refine (yr.out _ HP.out.below).mono ?_
  rintro e u7 ⟨rfl, hbl⟩
  have HP := Kp.mk (HP.out.step hbl)
  clear hbl
  go_wp2_with fail
  exact par_pan HP.out rfl rfl (fun _ h => ⟨rfl, h⟩)
set_option maxHeartbeats 2000000 in
theorem par_6 {l : List UInt8} {p1 z1 p2 z2 : List UInt8} {k1 k2 : Nat} {v1 v2 v3 c : Int} (hl : l.length ≤ 100) (w : World) (hk1 : l.length - 3 = k1) (hz1 : l.take k1 = z1) (hp1 : l.drop k1 = 45 :: p1) (hn1 : (∀ W, Calls Tryz.prog 51 #[.string ⟨#[]⟩, .string (bs p1), .int .i64 2] W fun e w' => e = .returned (.int .i64 v1) ∧ Below W.heap.size W w')) (hk2 : z1.length - 3 = k2) (hz2 : z1.take k2 = z2) (hp2 : z1.drop k2 = 45 :: p2) (hn2 : (∀ W, Calls Tryz.prog 51 #[.string ⟨#[]⟩, .string (bs p2), .int .i64 2] W fun e w' => e = .returned (.int .i64 v2) ∧ Below W.heap.size W w')) (hy : (∀ W, Below w.heap.size w W → Calls Tryz.prog 52 #[.string (bs z2)] W fun e w' => e = .returned (.int .i64 v3) ∧ Below W.heap.size W w')) (hc : chkC v3 v2 v1 = c) (h0 : ¬ c = 0) (hL : LaidCv w) :
    Calls Tryz.prog 28 #[.string (bs l)] w fun x w' => x = .returned (.tuple #[.agg #[.int .i64 0, .int .i64 0, .int .i64 0], .int .i64 c]) ∧ Below w.heap.size w w' := by
  have hmf : ∀ (fn : Fn) (first cap : Array Value) (w : World), (Instr.makeFunc fn first cap).run Tryz.prog w = .ok (.func fn first cap) w := fun _ _ _ _ => rfl
  have HP := Kp.mk (pw_new w l)
  have hl2 : z1.length ≤ 1000 := by rw [← hz1]; have := (List.take_sublist k1 l).length_le; omega
  have c1 := Kp.mk (fun g W h1 h2 => cut_yes (by omega) hk1 hz1 hp1 g W h1 h2)
  have c2 := Kp.mk (fun g W h1 h2 => cut_yes hl2 hk2 hz2 hp2 g W h1 h2)
  have n1 := Kp.mk hn1
  have n2 := Kp.mk hn2
  have yr := Kp.mk hy
  have ck := Kp.mk (fun W (hb : Below w.heap.size w W) => dChk hc W (hL.mo.below hb))
  have th := Kp.mk (fun W => throw_is h0 W)
  clear hl hl2 hk1 hz1 hp1 hn1 hk2 hz2 hp2 hn2 hy hc h0 hL
  go_enter_defers Tryz.func28, Tryz.ntmps28
  go_upto_region 3 with fail
  generalize ((w.alloc (.cells #[.int .i64 0, .int .i64 0, .int .i64 0] 23)).alloc (.cells #[.int .i64 0] 24)).alloc (.cells #[.string (bs l)] 79) = w0 at *
  have kz := HP.out.cz
  have fz := HP.out.fz
  go_wp2_with fail
  refine (c1.out _ _ kz fz).mono ?_
  rintro e w' ⟨rfl, rfl⟩
  clear kz fz
  have HP := Kp.mk (HP.out.setz z1)
  generalize World.setCell w0 ⟨w.heap.size + 1 + 1, 0, none⟩ (.string (bs z1)) = u1 at *
  go_wp2_with fail
  refine (n1.out _).mono ?_
  rintro e u2 ⟨rfl, hbl⟩
  have HP := Kp.mk (HP.out.step hbl)
  clear hbl
  have kf := HP.out.c2
  have ff := HP.out.f 2
  go_upto_region 5 with fail
  clear kf ff
  have HP := Kp.mk (HP.out.set2 v1)
  generalize World.setCell u2 ⟨w.heap.size, 2, none⟩ (.int .i64 v1) = u3 at *
  have kz := HP.out.cz
  have fz := HP.out.fz
  go_wp2_with fail
  refine (c2.out _ _ kz fz).mono ?_
  rintro e w' ⟨rfl, rfl⟩
  clear kz fz
  have HP := Kp.mk (HP.out.setz z2)
  generalize World.setCell u3 ⟨w.heap.size + 1 + 1, 0, none⟩ (.string (bs z2)) = u4 at *
  go_wp2_with fail
  refine (n2.out _).mono ?_
  rintro e u5 ⟨rfl, hbl⟩
  have HP := Kp.mk (HP.out.step hbl)
  clear hbl
  have kf := HP.out.c1
  have ff := HP.out.f 1
  go_upto_region 6 with fail
  clear kf ff
  have HP := Kp.mk (HP.out.set1 v2)
  generalize World.setCell u5 ⟨w.heap.size, 1, none⟩ (.int .i64 v2) = u6 at *
  have kz := HP.out.cz
  have fz := HP.out.fz
  go_wp2_with fail
  clear kz fz
  refine (yr.out _ HP.out.below).mono ?_
  rintro e u7 ⟨rfl, hbl⟩
  have HP := Kp.mk (HP.out.step hbl)
  clear hbl
  have kf := HP.out.c0
  have ff := HP.out.f 0
  go_upto_region 7 with fail
  clear kf ff
  have HP := Kp.mk (HP.out.set0 v3)
  generalize World.setCell u7 ⟨w.heap.size, 0, none⟩ (.int .i64 v3) = u8 at *
  have k0 := HP.out.c0
  have k1 := HP.out.c1
  have k2 := HP.out.c2
  go_wp2_with fail
  clear k0 k1 k2
  refine (ck.out _ HP.out.below).mono ?_
  rintro e u9 ⟨rfl, hbl⟩
  have HP := Kp.mk (HP.out.step hbl)
  clear hbl
  go_wp2_with fail
  refine (th.out _).mono ?_
  rintro e w' ⟨rfl, rfl⟩
  go_wp2_with fail
  exact par_pan HP.out rfl rfl (fun _ h => ⟨rfl, h⟩)
set_option maxHeartbeats 2000000 in
theorem par_7 {l : List UInt8} {p1 z1 p2 z2 : List UInt8} {k1 k2 : Nat} {v1 v2 v3 : Int} (hl : l.length ≤ 100) (w : World) (hk1 : l.length - 3 = k1) (hz1 : l.take k1 = z1) (hp1 : l.drop k1 = 45 :: p1) (hn1 : (∀ W, Calls Tryz.prog 51 #[.string ⟨#[]⟩, .string (bs p1), .int .i64 2] W fun e w' => e = .returned (.int .i64 v1) ∧ Below W.heap.size W w')) (hk2 : z1.length - 3 = k2) (hz2 : z1.take k2 = z2) (hp2 : z1.drop k2 = 45 :: p2) (hn2 : (∀ W, Calls Tryz.prog 51 #[.string ⟨#[]⟩, .string (bs p2), .int .i64 2] W fun e w' => e = .returned (.int .i64 v2) ∧ Below W.heap.size W w')) (hy : (∀ W, Below w.heap.size w W → Calls Tryz.prog 52 #[.string (bs z2)] W fun e w' => e = .returned (.int .i64 v3) ∧ Below W.heap.size W w')) (hc : chkC v3 v2 v1 = 0) (hL : LaidCv w) :
    Calls Tryz.prog 28 #[.string (bs l)] w fun x w' => x = .returned (.tuple #[.agg #[.int .i64 v3, .int .i64 v2, .int .i64 v1], .int .i64 0]) ∧ Below w.heap.size w w' := by
  have hmf : ∀ (fn : Fn) (first cap : Array Value) (w : World), (Instr.makeFunc fn first cap).run Tryz.prog w = .ok (.func fn first cap) w := fun _ _ _ _ => rfl
  have HP := Kp.mk (pw_new w l)
  have hl2 : z1.length ≤ 1000 := by rw [← hz1]; have := (List.take_sublist k1 l).length_le; omega
  have c1 := Kp.mk (fun g W h1 h2 => cut_yes (by omega) hk1 hz1 hp1 g W h1 h2)
  have c2 := Kp.mk (fun g W h1 h2 => cut_yes hl2 hk2 hz2 hp2 g W h1 h2)
  have n1 := Kp.mk hn1
  have n2 := Kp.mk hn2
  have yr := Kp.mk hy
  have ck := Kp.mk (fun W (hb : Below w.heap.size w W) => dChk hc W (hL.mo.below hb))
  have th := Kp.mk (fun W => throw_no W)
  clear hl hl2 hk1 hz1 hp1 hn1 hk2 hz2 hp2 hn2 hy hc hL
  go_enter_defers Tryz.func28, Tryz.ntmps28
  go_upto_region 3 with fail
  generalize ((w.alloc (.cells #[.int .i64 0, .int .i64 0, .int .i64 0] 23)).alloc (.cells #[.int .i64 0] 24)).alloc (.cells #[.string (bs l)] 79) = w0 at *
  have kz := HP.out.cz
  have fz := HP.out.fz
  go_wp2_with fail
  refine (c1.out _ _ kz fz).mono ?_
  rintro e w' ⟨rfl, rfl⟩
  clear kz fz
  have HP := Kp.mk (HP.out.setz z1)
  generalize World.setCell w0 ⟨w.heap.size + 1 + 1, 0, none⟩ (.string (bs z1)) = u1 at *
  go_wp2_with fail
  refine (n1.out _).mono ?_
  rintro e u2 ⟨rfl, hbl⟩
  have HP := Kp.mk (HP.out.step hbl)
  clear hbl
  have kf := HP.out.c2
  have ff := HP.out.f 2
  go_upto_region 5 with fail
  clear kf ff
  have HP := Kp.mk (HP.out.set2 v1)
  generalize World.setCell u2 ⟨w.heap.size, 2, none⟩ (.int .i64 v1) = u3 at *
  have kz := HP.out.cz
  have fz := HP.out.fz
  go_wp2_with fail
  refine (c2.out _ _ kz fz).mono ?_
  rintro e w' ⟨rfl, rfl⟩
  clear kz fz
  have HP := Kp.mk (HP.out.setz z2)
  generalize World.setCell u3 ⟨w.heap.size + 1 + 1, 0, none⟩ (.string (bs z2)) = u4 at *
  go_wp2_with fail
  refine (n2.out _).mono ?_
  rintro e u5 ⟨rfl, hbl⟩
  have HP := Kp.mk (HP.out.step hbl)
  clear hbl
  have kf := HP.out.c1
  have ff := HP.out.f 1
  go_upto_region 6 with fail
  clear kf ff
  have HP := Kp.mk (HP.out.set1 v2)
  generalize World.setCell u5 ⟨w.heap.size, 1, none⟩ (.int .i64 v2) = u6 at *
  have kz := HP.out.cz
  have fz := HP.out.fz
  go_wp2_with fail
  clear kz fz
  refine (yr.out _ HP.out.below).mono ?_
  rintro e u7 ⟨rfl, hbl⟩
  have HP := Kp.mk (HP.out.step hbl)
  clear hbl
  have kf := HP.out.c0
  have ff := HP.out.f 0
  go_upto_region 7 with fail
  clear kf ff
  have HP := Kp.mk (HP.out.set0 v3)
  generalize World.setCell u7 ⟨w.heap.size, 0, none⟩ (.int .i64 v3) = u8 at *
  have k0 := HP.out.c0
  have k1 := HP.out.c1
  have k2 := HP.out.c2
  go_wp2_with fail
  clear k0 k1 k2
  refine (ck.out _ HP.out.below).mono ?_
  rintro e u9 ⟨rfl, hbl⟩
  have HP := Kp.mk (HP.out.step hbl)
  clear hbl
  go_wp2_with fail
  refine (th.out _).mono ?_
  rintro e w' ⟨rfl, rfl⟩
  have k0 := HP.out.c0
  have k1 := HP.out.c1
  have k2 := HP.out.c2
  have HQ := Kp.mk (HP.out.setRow v3 v2 v1)
  have ke := HQ.out.ce
  have fe := HQ.out.fe
  go_wp2_with (first
      | refine wpList_store_row' rfl 23 (.tmp 2) (.tmp 25) rfl (w.heap.size) #[.int .i64 v3, .int .i64 v2, .int .i64 v1] rfl rfl 23 #[.int .i64 v3, .int .i64 v2, .int .i64 v1] HP.out.hc infoCv rfl (three_one _ _ _) ?_)
  exact par_ret (HQ.out.sete 0) rfl rfl (fun _ h => ⟨rfl, h⟩)
end Go.Proofs.YtoafigehcgledaaGreatDoor
