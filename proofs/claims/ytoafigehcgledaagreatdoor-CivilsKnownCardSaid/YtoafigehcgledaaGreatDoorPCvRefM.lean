/-
  DERIVED. CONTRACT of the reference of layer 6 (civils): Parse, texts that have the form: the year's digits without leading zeros, read as a number. Written by mkcvparse.py.
-/
import Derived.Test.YtoafigehcgledaaGreatDoorPCvRefP
import Derived.Test.YtoafigehcgledaaGreatDoorPR1RefParse
import Derived.Test.YtoafigehcgledaaGreatDoorPR1RefInt
import Derived.Test.YtoafigehcgledaaGreatDoorPCvRefX
import Derived.BigRegion
namespace Go.Proofs.YtoafigehcgledaaGreatDoor
open Go.RowKit

theorem strip_val {yr : List UInt8} : ∀ j, (∀ i, i < j → yr[i]? = some 48) → valM 0 (yr.drop j) = valM 0 yr := by
  intro j
  induction j with
  | zero => intro _; rfl
  | succ j ih =>
    intro h
    have h1 := ih (fun i hi => h i (by omega))
    have h2 := h j (by omega)
    obtain ⟨hl, e⟩ := List.getElem?_eq_some_iff.1 h2
    rw [← h1, List.drop_eq_getElem_cons hl, e]; rfl
/-- the whole number of a year's digits, without its leading zeros -/
theorem num_bs {x : List UInt8} (hd : ∀ c ∈ x, dig c) (h0 : 0 < x.length) (hm : x.length ≤ 1000) (hz : x.length = 1 ∨ ¬ x.getD 0 0 = 48) (w : World) :
    Calls Tryz.prog 58 #[.string (bs x)] w (R1.ReadAs (valM 0 x : Int) w) := by
  obtain ⟨c, r, rfl⟩ : ∃ c r, x = c :: r := by
    match x, h0 with
    | c :: r, _ => exact ⟨c, r, rfl⟩
  have hs : (bs (c :: r)).size = (c :: r).length := bs_size _
  have hi : 0 < (bs (c :: r)).size := by rw [hs]; exact h0
  have hget : (bs (c :: r))[0] = c := rfl
  have hc := hd c (by simp)
  unfold dig at hc
  have e45 : (((bs (c :: r))[0].toNat : Int) == 45) = false := by rw [hget, beq_eq_false_iff_ne]; omega
  have hl : (bs (c :: r)).data.toList = c :: r := rfl
  have hv : R1.nv false (R1.dgs (bs (c :: r)).data.toList 0) = (valM 0 (c :: r) : Int) := by
    unfold R1.nv
    rw [R1.vl_dgs, hl]; rfl
  have hd2 : ∀ c' ∈ (bs (c :: r)).data.toList.drop 0, dig c' := fun c' h => hd c' h
  by_cases g : c.toNat = 48
  · have hr : (c :: r).length = 1 := by
      rcases hz with h | h
      · exact h
      · exact absurd (UInt8.toNat_inj.1 (by show c.toNat = 48; exact g)) h
    have e48 : (((bs (c :: r))[0].toNat : Int) == 48) = true := by rw [hget, beq_iff_eq]; omega
    have := R1.rparse_zok (bs (c :: r)) (by rw [hs, hr]) e45 e48 hd2 w
    rw [hv] at this
    exact this
  · have e48 : (((bs (c :: r))[0].toNat : Int) == 48) = false := by rw [hget, beq_eq_false_iff_ne]; omega
    have := R1.rparse_pok (bs (c :: r)) (by rw [hs]; exact hm) hi e45 e48 hd2 w
    rw [hv] at this
    exact this
/-- the result's block, as every world of the walk has it -/
structure Rz (g : Nat) (W : World) : Prop where
  size : g < W.heap.size
  c0 : W.cell? ⟨g, 0, none⟩ = some (.int .i64 0)
  c1 : W.cell? ⟨g, 1, none⟩ = some (.int .i64 0)
  c2 : W.cell? ⟨g, 2, none⟩ = some (.int .i64 0)
  f0 : W.frozen? ⟨g, 0, none⟩ = false
  f1 : W.frozen? ⟨g, 1, none⟩ = false
  f2 : W.frozen? ⟨g, 2, none⟩ = false
theorem Rz.step {g : Nat} {W W' : World} (h : Rz g W) (hb : Below W.heap.size W W') : Rz g W' :=
  ⟨by have := hb.size; have := h.size; omega, by rw [hb.cell (p := ⟨g, 0, none⟩) h.size]; exact h.c0, by rw [hb.cell (p := ⟨g, 1, none⟩) h.size]; exact h.c1, by rw [hb.cell (p := ⟨g, 2, none⟩) h.size]; exact h.c2,
   by rw [hb.frozen (p := ⟨g, 0, none⟩) h.size]; exact h.f0, by rw [hb.frozen (p := ⟨g, 1, none⟩) h.size]; exact h.f1, by rw [hb.frozen (p := ⟨g, 2, none⟩) h.size]; exact h.f2⟩
theorem rz_new (w : World) (t : TypeId) : Rz w.heap.size (w.alloc (.cells #[.int .i64 0, .int .i64 0, .int .i64 0] t)) :=
  ⟨by simp, by simp [go_sem], by simp [go_sem], by simp [go_sem], by simp [go_sem], by simp [go_sem], by simp [go_sem]⟩
/-- the walk's blocks: the result, the number -/
structure St (w : World) (g : Nat) (sg : Bool) (v : Value) (n : Nat) (W : World) : Prop where
  below : Below w.heap.size w W
  rz : Rz w.heap.size W
  gt : w.heap.size < g
  nm : Nm g sg v n W
  f0 : W.frozen? ⟨g, 0, none⟩ = false
  f1 : W.frozen? ⟨g, 1, none⟩ = false
theorem St.step {w W W' : World} {g : Nat} {sg : Bool} {v : Value} {n : Nat} (h : St w g sg v n W) (hb : Below W.heap.size W W') : St w g sg v n W' :=
  ⟨h.below.trans (hb.mono h.below.size), h.rz.step hb, h.gt, h.nm.step hb, by rw [hb.frozen (p := ⟨g, 0, none⟩) h.nm.size]; exact h.f0, by rw [hb.frozen (p := ⟨g, 1, none⟩) h.nm.size]; exact h.f1⟩
theorem st_new {w W : World} {sg : Bool} {v : Value} {n : Nat} (t : TypeId) (hb : Below w.heap.size w W) (hr : Rz w.heap.size W) (hd : R1.Digs W v (dg n)) :
    St w W.heap.size sg v n (W.alloc (.cells #[.bool sg, v] t)) :=
  ⟨hb.alloc hb.size _, hr.step ((Below.refl _ _).alloc (Nat.le_refl _) _), hr.size, nm_new t hd, by simp [go_sem], by simp [go_sem]⟩
theorem Rz.setCell {g k o : Nat} {u : Value} {W : World} (h : Rz g W) (hk : ¬ g = k) : Rz g (W.setCell ⟨k, o, none⟩ u) := by
  have hne : ∀ j, (⟨k, o, none⟩ : Addr) ≠ ⟨g, j, none⟩ := fun j e => hk (by cases e; rfl)
  exact ⟨by simp [World.setCell]; exact h.size, by rw [World.cell?_setCell_other _ _ _ _ (hne 0)]; exact h.c0, by rw [World.cell?_setCell_other _ _ _ _ (hne 1)]; exact h.c1, by rw [World.cell?_setCell_other _ _ _ _ (hne 2)]; exact h.c2,
    by rw [World.frozen?_setCell]; exact h.f0, by rw [World.frozen?_setCell]; exact h.f1, by rw [World.frozen?_setCell]; exact h.f2⟩
theorem St.neg {w W W' : World} {g : Nat} {a a' : Option Addr} {cap cap' len n : Nat} (h : St w g false (.slice a len cap) n W) (ha : ∀ p, a = some p → ¬ p.block = g) (hb : Below W.heap.size W W') (hd : R1.Digs W' (.slice a' len cap') (dg n))
    (hf : ∀ p, a' = some p → W.heap.size ≤ p.block ∨ p.block ∈ R1.sb (.slice a len cap)) :
    St w g true (.slice a' len cap') n ((W'.setCell ⟨g, 0, none⟩ (.bool true)).setCell ⟨g, 1, none⟩ (.slice a' len cap')) := by
  have h2 := h.step hb
  have hk : ∀ p, a' = some p → ¬ p.block = g := fun p hp => by
    rcases hf p hp with e | e
    · have := h.nm.size; omega
    · cases a with
      | none => simp [R1.sb] at e
      | some q => simp [R1.sb] at e; have := ha q rfl; omega
  have hg := h.gt
  refine ⟨(h2.below.setCell (p := ⟨g, 0, none⟩) (by show w.heap.size ≤ g; omega) _).setCell (p := ⟨g, 1, none⟩) (by show w.heap.size ≤ g; omega) _, (h2.rz.setCell (by omega)).setCell (by omega), hg, ⟨by simp [World.setCell]; exact h2.nm.size, ?_, ?_, (hd.setCell hk).setCell hk⟩, ?_, ?_⟩
  · rw [World.cell?_setCell_other _ _ _ _ (show (⟨g, 1, none⟩ : Addr) ≠ ⟨g, 0, none⟩ from by intro e; cases e), World.cell?_setCell_same _ _ _ h2.nm.c0]
  · rw [World.cell?_setCell_same _ _ _ (u := .slice a len cap) (by rw [World.cell?_setCell_other _ _ _ _ (show (⟨g, 0, none⟩ : Addr) ≠ ⟨g, 1, none⟩ from by intro e; cases e)]; exact h2.nm.c1)]
  · rw [World.frozen?_setCell, World.frozen?_setCell]; exact h2.f0
  · rw [World.frozen?_setCell, World.frozen?_setCell]; exact h2.f1
/-- the number read, its negative, and as an int64 -/
theorem num_pos {x : List UInt8} {N len : Nat} (hd : ∀ c ∈ x, dig c) (h0 : 0 < x.length) (hm : x.length ≤ 1000) (hz : x.length = 1 ∨ ¬ x.getD 0 0 = 48) (hN : valM 0 x = N) (hl : (dg N).length = len) (w : World) :
    Calls Tryz.prog 58 #[.string (bs x)] w fun e w' => (∃ a cap, e = .returned (.tuple #[.agg #[.bool false, .slice a len cap], .bool true]) ∧ R1.Digs w' (.slice a len cap) (dg N)) ∧ Below w.heap.size w w' := by
  have h := num_bs hd h0 hm hz w
  unfold R1.ReadAs at h
  rw [hN, Int.natAbs_natCast, hl, decide_eq_false (by omega)] at h
  exact h
theorem num_neg {N len : Nat} (hN : ¬ N = 0) (hl : (dg N).length = len) (a : Option Addr) (cap : Nat) (w : World) (hd : R1.Digs w (.slice a len cap) (dg N)) :
    Calls Tryz.prog 59 #[.agg #[.bool false, .slice a len cap]] w fun e w' => (∃ a' cap', e = .returned (.agg #[.bool true, .slice a' len cap']) ∧ R1.Digs w' (.slice a' len cap') (dg N) ∧ ∀ p, a' = some p → w.heap.size ≤ p.block ∨ p.block ∈ R1.sb (.slice a len cap)) ∧ Below w.heap.size w w' := by
  have h := R1.neg_any (N : Int) (.slice a len cap) w (by rw [Int.natAbs_natCast]; exact hd)
  unfold R1.SomeNum at h
  rw [Int.natAbs_neg, Int.natAbs_natCast, hl, decide_eq_false (by omega), decide_eq_true (by omega)] at h
  exact h
theorem num_int {N len : Nat} {sg : Bool} {y : Int} (hy : y = if sg then -(N : Int) else N) (hs : sg = true → ¬ N = 0) (hl : (dg N).length = len) (hlen : len ≤ 1000) (h0 : -9223372036854775808 ≤ y) (h1 : y ≤ 9223372036854775807) (w : World) (va : Value) (hd : R1.Digs w va (dg N)) :
    Calls Tryz.prog 60 #[.agg #[.bool sg, va]] w fun e w' => e = .returned (.tuple #[.int .i64 y, .bool true]) ∧ Below w.heap.size w w' := by
  have hn : y.natAbs = N := by rw [hy]; cases sg <;> simp
  have h := R1.int_in y va w (by rw [hn]; exact hd) (by rw [hn, hl]; exact hlen) h0 h1
  rw [show decide (y < 0) = sg by
    rw [hy]; cases sg
    · exact decide_eq_false (by simp)
    · have := hs rfl; exact decide_eq_true (by simp; omega)] at h
  exact h
theorem num_out {N len : Nat} {sg : Bool} {y : Int} (hy : y = if sg then -(N : Int) else N) (hs : sg = true → ¬ N = 0) (hl : (dg N).length = len) (hlen : len ≤ 1000) (ho : ¬ (-9223372036854775808 ≤ y ∧ y ≤ 9223372036854775807)) (w : World) (va : Value) (hd : R1.Digs w va (dg N)) :
    Calls Tryz.prog 60 #[.agg #[.bool sg, va]] w fun e w' => e = .returned (.tuple #[.int .i64 0, .bool false]) ∧ Below w.heap.size w w' := by
  have hn : y.natAbs = N := by rw [hy]; cases sg <;> simp
  have h := R1.int_out y va w (by rw [hn]; exact hd) (by rw [hn, hl]; exact hlen) ho
  rw [show decide (y < 0) = sg by
    rw [hy]; cases sg
    · exact decide_eq_false (by simp)
    · have := hs rfl; exact decide_eq_true (by simp; omega)] at h
  exact h
end Go.Proofs.YtoafigehcgledaaGreatDoor
