/-
  DERIVED. CONTRACTS of package masks: the digits of a number, of a mask.
-/
import Derived.Test.YtabhfpfnaaihjaaMkRef
import Derived.Laws.RangeAny
import Derived.Laws.CopyOwn
import Derived.Laws.Externs
namespace Go.Proofs.Ytabhfpfnaaihjaa
open Go.RowKit

/-- eighteen numbers as the model holds them -/
def cl (f : Nat → Nat) : Array Value := ((List.range 18).map fun k => Value.int .i64 (f k : Int)).toArray
theorem cl_size (f : Nat → Nat) : (cl f).size = 18 := rfl
theorem cl_get {f : Nat → Nat} {k : Nat} (h : k < 18) : (cl f)[k]? = some (.int .i64 (f k : Int)) := by
  unfold cl
  rw [List.getElem?_toArray, List.getElem?_map, List.getElem?_range h]; rfl
theorem cl_congr {f g : Nat → Nat} (h : ∀ k, k < 18 → f k = g k) : cl f = cl g := by
  unfold cl
  congr 1
  apply List.map_congr_left
  intro k hk
  rw [h k (List.mem_range.1 hk)]
theorem cl_set {f : Nat → Nat} {i v : Nat} (h : i < 18) : (cl f).setIfInBounds i (.int .i64 (v : Int)) = cl (fun k => if k = i then v else f k) := by
  apply Array.ext_getElem?
  intro k
  rw [Array.getElem?_setIfInBounds]
  by_cases hk : k < 18
  · rw [cl_get hk]
    by_cases e : i = k
    · subst e; rw [if_pos rfl, if_pos (by rw [cl_size]; exact h), cl_get h, if_pos rfl]
    · rw [if_neg e, cl_get hk, if_neg (fun x => e x.symm)]
  · have h1 : (cl fun k => if k = i then v else f k)[k]? = none := by rw [Array.getElem?_eq_none_iff, cl_size]; omega
    rw [h1]
    by_cases e : i = k
    · omega
    · rw [if_neg e, Array.getElem?_eq_none_iff, cl_size]; omega
theorem cl_zero : cl (fun _ => 0) = #[.int .i64 0, .int .i64 0, .int .i64 0, .int .i64 0, .int .i64 0, .int .i64 0, .int .i64 0, .int .i64 0, .int .i64 0, .int .i64 0, .int .i64 0, .int .i64 0, .int .i64 0, .int .i64 0, .int .i64 0, .int .i64 0, .int .i64 0, .int .i64 0] := rfl
theorem cl_one (f : Nat → Nat) : (cl f).all (·.oneCell') = true := by
  unfold cl
  rw [List.all_toArray]
  rw [List.all_map, List.all_eq_true]
  intro k _; rfl
theorem wpList_store_row' {P : Program} {ops : Array Oper} {rest : List Oper} {o : Oper} {a : Act} {w : World} {Q : Exit → Act → World → Prop} (hgd : o.guard = none) (ty : TypeId) (x y : Operand) (ho : o.op = .store ty x y)
    (g : Nat) (cells : Array Value) (hx : a.eval x = .pointer (some ⟨g, 0, none⟩)) (hy : a.eval y = .agg cells)
    (t : TypeId) (old : Array Value) (hg : w.heap[g]? = some (.cells old t (0, 0))) (hi : (P.info? ty).map (·.size) = some cells.size)
    (hold : old.size = cells.size) (h1 : cells.all (·.oneCell') = true)
    (h : wpList P ops Q rest (a.put o.dst undef) (w.setRow g cells)) : wpList P ops Q (o :: rest) a w :=
  wpList_plain hgd fun _ hK => wp_store_row ty x y ho g cells hx hy t old hg hi hold h1 (hK _ _ h)
/-- a place's digit -/
def fl (c g : Nat) : Nat := if c = 88 then g else c - 48
theorem fill_is {c g : Nat} (w : World) (hc : c = 88 ∨ 48 ≤ c ∧ c ≤ 57) :
    Calls Try.prog 43 #[.int .i32 c, .int .i64 g] w fun e w' => e = .returned (.int .i64 (fl c g)) ∧ w = w' := by
  rcases hc with rfl | hc
  · go_enter Try.func43, Try.ntmps43
    go_wp2
    go_ret
    exact ⟨rfl, rfl⟩
  · have t : ((c : Int) == 88) = false := by rw [beq_eq_false_iff_ne]; omega
    have e1 : IntKind.i32.wrap ((c : Int) - 48) = ((c - 48 : Nat) : Int) := by rw [show (c : Int) - 48 = ((c - 48 : Nat) : Int) by omega]; exact IntWalk.i32_in _ (by omega)
    have e2 : IntKind.i64.wrap ((c - 48 : Nat) : Int) = ((c - 48 : Nat) : Int) := IntWalk.i64_in _ (by omega)
    have HF := Kp.mk (show fl c g = c - 48 by unfold fl; rw [if_neg (by omega)])
    go_enter Try.func43, Try.ntmps43
    go_wp2_with fail
    go_ret
    exact ⟨by rw [HF.out]; rfl, rfl⟩
theorem allows_is {c g : Nat} {b : Bool} (w : World) (hc : c = 88 ∨ 48 ≤ c ∧ c ≤ 57) (hb : (fl c g == g) = b) :
    Calls Try.prog 45 #[.int .i32 c, .int .i64 g] w fun e w' => e = .returned (.bool b) ∧ w = w' := by
  have hb2 : (((fl c g : Nat) : Int) == (g : Int)) = b := by
    rw [← hb, Bool.eq_iff_iff, beq_iff_eq, beq_iff_eq]; omega
  have H := Kp.mk (fun w => fill_is (g := g) w hc)
  generalize fl c g = x at *
  go_enter Try.func45, Try.ntmps45
  go_wp2_with fail
  refine (H.out _).mono ?_
  rintro e w' ⟨rfl, rfl⟩
  go_wp2_with fail
  go_ret
  exact ⟨rfl, rfl⟩
theorem infoDg : (Try.prog.info? 58).map (·.size) = some 18 := by kernel_rfl
theorem div_pow_succ (n k : Nat) : n / 10 ^ k / 10 = n / 10 ^ (k + 1) := by rw [Nat.div_div_eq_div_mul, Nat.pow_succ]
def dgF (n L m : Nat) (k : Nat) : Nat := if m ≤ k ∧ k < L then n / 10 ^ (L - 1 - k) % 10 else 0
set_option maxHeartbeats 1000000 in
theorem digitsOf_is {n L : Nat} (w : World) (h1 : 1 ≤ L) (h2 : L ≤ 18) (hn : n < 1000000000000000000) :
    Calls Try.prog 38 #[.int .i64 n, .int .i64 L] w fun e w' => e = .returned (.agg (cl (dgF n L 0))) ∧ Below w.heap.size w w' := by
  have HN := Kp.mk hn
  clear hn
  go_enter Try.func38, Try.ntmps38
  go_wp2_with fail
  go_loopw [0, 6] (fun a i wr => ∃ m : Nat, m ≤ L ∧ a = .int .i64 ((n / 10 ^ (L - m) : Nat) : Int) ∧ i = .int .i64 ((m : Int) - 1) ∧ wr = (w.alloc (.cells (cl fun _ => 0) 58)).alloc (.cells (cl (dgF n L m)) 58)) (fun _ i _ => (intOf i + 1).toNat)
  case atStart => exact ⟨L, by omega, by simp, rfl, by rw [show cl (dgF n L L) = cl (fun _ => 0) from cl_congr (fun k hk => by unfold dgF; rw [if_neg (by omega)])]; rfl⟩
  case round =>
    obtain ⟨m, hm, rfl, rfl, rfl⟩ := hrel
    by_cases hlt : 0 < m
    · obtain ⟨j, rfl⟩ : ∃ j, m = j + 1 := ⟨m - 1, by omega⟩
      have e1 : ((j + 1 : Nat) : Int) - 1 = (j : Int) := by omega
      rw [e1]
      obtain ⟨q, hq⟩ : ∃ q, n / 10 ^ (L - (j + 1)) = q := ⟨_, rfl⟩
      have hq0 : q < 1000000000000000000 := by have := Nat.div_le_self n (10 ^ (L - (j + 1))); have := HN.out; omega
      obtain ⟨r, hr⟩ : ∃ r, q % 10 = r := ⟨_, rfl⟩
      obtain ⟨p, hp⟩ : ∃ p, q / 10 = p := ⟨_, rfl⟩
      have hset : (cl (dgF n L (j + 1))).setIfInBounds j (.int .i64 (r : Int)) = cl (dgF n L j) := by
        rw [← hr, cl_set (by omega)]
        apply cl_congr
        intro k hk
        unfold dgF
        by_cases e : k = j
        · rw [if_pos e, e, if_pos (by omega), ← hq, show L - (j + 1) = L - 1 - j by omega]
        · rw [if_neg e]
          by_cases g : j ≤ k ∧ k < L
          · rw [if_pos (by omega), if_pos g]
          · rw [if_neg (by omega), if_neg g]
      have hdv : n / 10 ^ (L - j) = p := by rw [← hp, ← hq, div_pow_succ]; congr 2; omega
      rw [hq]
      have hm1 : Int.tmod (q : Int) 10 = (r : Int) := by rw [Int.tmod_eq_emod_of_nonneg (by omega)]; omega
      have hm2 : Int.tdiv (q : Int) 10 = (p : Int) := by rw [Int.tdiv_eq_ediv_of_nonneg (by omega)]; omega
      have hw1 : IntKind.i64.wrap (r : Int) = (r : Int) := IntWalk.i64_in _ (by omega)
      have hw2 : IntKind.i64.wrap (p : Int) = (p : Int) := IntWalk.i64_in _ (by omega)
      have hj : j < 18 := by omega
      have H1 := Kp.mk hset
      have H2 := Kp.mk hdv
      have hget := cl_get (f := dgF n L (j + 1)) hj
      clear hset hdv hq hr hp
      go_wp2_with fail
      go_roundw
      case rel =>
        first
          | exact ⟨j, by omega, by rw [H2.out], by go_num, by rw [H1.out]⟩
          | ((repeat apply Exists.intro); exact ⟨⟨j, by omega, by rw [H2.out], by go_num, by rw [H1.out]⟩, rfl⟩)
      case measure => simp [intOf] <;> omega
    · obtain rfl : m = 0 := by omega
      go_wp2_with (first
        | refine wpList_load_row rfl 58 (.tmp 5) rfl (w.heap.size + 1) rfl 58 (cl (dgF n L 0)) (0, 0) _ (heap_alloc2_new _ _ _) Try.underlying58 rfl infoDg ?_
        | refine wpList_store_row' rfl 58 (.tmp 4) (.tmp 19) rfl w.heap.size (cl (dgF n L 0)) rfl rfl 58 (cl fun _ => 0) (heap_alloc2_old _ _ _) infoDg rfl (cl_one _) ?_)
      refine bodyPost_ret (results_cell_row (p := 4) (ty := 58) rfl _ _ w.heap.size 58 (cl (dgF n L 0)) (0, 0) _ rfl (setRow_heap _ _ _ _ _ _ (heap_alloc2_old _ _ _)) Try.underlying58 rfl infoDg) rfl ?_
      exact ⟨rfl, below_setRow (((Below.refl w.heap.size w).alloc (Nat.le_refl _) _).alloc (by simp) _) (Nat.le_refl _) _⟩
end Go.Proofs.Ytabhfpfnaaihjaa
