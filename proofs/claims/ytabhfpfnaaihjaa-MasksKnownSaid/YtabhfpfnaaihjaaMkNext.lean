/-
  DERIVED. WALK of the law MasksNext, given the contracts of package masks. Written by mkmknext.py.
-/
import Derived.Test.YtabhfpfnaaihjaaMkOfAny
namespace Go.Proofs.Ytabhfpfnaaihjaa
open Go.RowKit

/-- what package masks gives for masks -/
structure MaskFns : Prop where
  next : ∀ {s : ByteArray} {n u : Int} {b : Nat} {c : Bool} (w : World), Mk s → -9223372036854775808 ≤ n → n ≤ 9223372036854775807 → Blw (codes s) n b → nextR (codes s) b = (u, c) →
    Calls Try.prog 24 #[.string s, .int .i64 n] w fun e w' => e = .returned (.tuple #[.int .i64 u, .int .i64 (if c then 0 else 16)]) ∧ Below w.heap.size w w'
  prev : ∀ {s : ByteArray} {n u : Int} {b : Nat} {c : Bool} (w : World), Mk s → -9223372036854775808 ≤ n → n ≤ 9223372036854775807 → Blw (codes s) n b → prevR (codes s) n b = (u, c) →
    Calls Try.prog 25 #[.string s, .int .i64 n] w fun e w' => e = .returned (.tuple #[.int .i64 u, .int .i64 (if c then 0 else 16)]) ∧ Below w.heap.size w w'
  has : ∀ {s : ByteArray} {n : Int} {c : Bool} (w : World), Mk s → -9223372036854775808 ≤ n → n ≤ 9223372036854775807 → hasI (codes s) n = c →
    Calls Try.prog 19 #[.string s, .int .i64 n] w fun e w' => e = .returned (.bool c) ∧ Below w.heap.size w w'
  lives : ∀ (w : World), Calls Try.prog 23 #[] w fun e w' => e = .returned (.bool true) ∧ Below w.heap.size w w'
theorem RowU8.alloc {w : World} {p : Option Addr} {len : Nat} {z : Nat → Int} (h : RowU8 w p len z) (o : Obj) : RowU8 (w.alloc o) p len z := by
  rcases h with rfl | ⟨b, off, rfl, hb, hz⟩
  · exact .inl rfl
  · exact .inr ⟨b, off, rfl, by simp; omega, fun k hk => by rw [World.cell?_alloc_past _ b (off + k) hb]; exact hz k hk⟩
theorem has_at {l : List Nat} (hd : Dm l) {k : Int} (h : hasI l k = true) : ∃ i, i < cnt l ∧ (nth l i : Int) = k := by
  unfold hasI at h
  rw [Bool.and_eq_true, decide_eq_true_eq] at h
  obtain ⟨i, h1, h2⟩ := (hasN_iff hd _).1 h.2
  exact ⟨i, h1, by omega⟩
theorem next_least {l : List Nat} {n u k : Int} {b : Nat} {c : Bool} (hd : Dm l) (hb : Blw l n b) (hr : nextR l b = (u, c)) (hk : hasI l k = true) (hn : n ≤ k) : c = true ∧ u ≤ k := by
  obtain ⟨i, h1, h2⟩ := has_at hd hk
  have hbi : b ≤ i := by
    by_cases g : b ≤ i
    · exact g
    · have := hb.2.1 i (by omega); omega
  unfold nextR at hr
  rw [if_neg (by omega)] at hr
  cases hr
  refine ⟨rfl, ?_⟩
  by_cases e : b = i
  · rw [e]; omega
  · have := @nth_mono l b i (by omega) h1; omega
theorem prev_most {l : List Nat} {n u k : Int} {b : Nat} {c : Bool} (hd : Dm l) (hb : Blw l n b) (hr : prevR l n b = (u, c)) (hk : hasI l k = true) (hn : k ≤ n) : c = true ∧ k ≤ u := by
  obtain ⟨i, h1, h2⟩ := has_at hd hk
  unfold prevR at hr
  by_cases g : b < cnt l ∧ (nth l b : Int) = n
  · rw [if_pos g] at hr
    cases hr
    exact ⟨rfl, hn⟩
  · rw [if_neg g] at hr
    have hib : i < b := by
      by_cases hib : i < b
      · exact hib
      · have h3 := hb.2.2 i (by omega) h1
        have h4 := hb.2.2 b (Nat.le_refl _) (by omega)
        have h5 : nth l b ≤ nth l i := by
          by_cases e : b = i
          · rw [e]; omega
          · have := @nth_mono l b i (by omega) h1; omega
        exact absurd ⟨by omega, by omega⟩ g
    rw [if_neg (by omega)] at hr
    cases hr
    refine ⟨rfl, ?_⟩
    by_cases e : i = b - 1
    · rw [← e]; omega
    · have := hb.1
      have := @nth_mono l i (b - 1) (by omega) (by omega); omega
theorem next_there {l : List Nat} {n u : Int} {b : Nat} {c : Bool} (hb : Blw l n b) (hr : nextR l b = (u, c)) (hc : c = true) : n ≤ u := by
  unfold nextR at hr
  have := hb.1
  split at hr
  · cases hr; cases hc
  · cases hr; exact hb.2.2 b (Nat.le_refl _) (by omega)
theorem prev_there {l : List Nat} {n u : Int} {b : Nat} {c : Bool} (hb : Blw l n b) (hr : prevR l n b = (u, c)) (hc : c = true) : u ≤ n := by
  unfold prevR at hr
  split at hr
  · cases hr; omega
  · split at hr
    · cases hr; cases hc
    · cases hr
      have := hb.2.1 (b - 1) (by omega); omega
theorem gives_same (u : Int) (c : Bool) (h : c = false → u = 0) : givesB u (if c then 0 else 16) u c 16 = true := by
  cases c
  · rw [h rfl]; rfl
  · unfold givesB; simp
theorem nextR_zero {l : List Nat} {b : Nat} {u : Int} {c : Bool} (hr : nextR l b = (u, c)) (hc : c = false) : u = 0 := by
  unfold nextR at hr
  split at hr <;> cases hr
  · rfl
  · cases hc
theorem prevR_zero {l : List Nat} {n : Int} {b : Nat} {u : Int} {c : Bool} (hr : prevR l n b = (u, c)) (hc : c = false) : u = 0 := by
  unfold prevR at hr
  split at hr
  · cases hr; cases hc
  · split at hr <;> cases hr
    · rfl
    · cases hc
set_option maxRecDepth 100000 in
set_option maxHeartbeats 4000000 in
theorem lawNext_any (C : MaskFns) {p : Option Addr} {len cap : Nat} {z : Nat → Int} (n k : Int) (w : World) (hl : (len : Int) ≤ 9223372036854775807) (hr : RowU8 w p len z)
    (n0 : -9223372036854775808 ≤ n) (n1 : n ≤ 9223372036854775807) (k0 : -9223372036854775808 ≤ k) (k1 : k ≤ 9223372036854775807) :
    Calls Try.prog 4 #[.agg #[.slice p len cap], .int .i64 n, .int .i64 k] w fun e w' => e = .returned (.bool true) ∧ Below w.heap.size w w' := by
  have HR := Kp.mk hr
  have HL := Kp.mk hl
  have HC := Kp.mk C
  have HNK := Kp.mk (And.intro (And.intro n0 n1) (And.intro k0 k1))
  clear hr hl C n0 n1 k0 k1
  go_enter Try.func4, Try.ntmps4
  go_wp2_with fail
  refine (of_any _ HL.out (HR.out.alloc _)).mono ?_
  rintro e w1 ⟨s, hs, rfl, hbel⟩
  have HB := Kp.mk (((Below.refl w.heap.size w).alloc (Nat.le_refl _) _).trans (hbel.mono (by simp)))
  clear hbel
  obtain ⟨b, hb⟩ := blw_exists (codes s) n
  obtain ⟨⟨u, c⟩, hu⟩ : ∃ x, nextR (codes s) b = x := ⟨_, rfl⟩
  obtain ⟨⟨v, d⟩, hv⟩ : ∃ x, prevR (codes s) n b = x := ⟨_, rfl⟩
  obtain ⟨hk, ehk⟩ : ∃ x, hasI (codes s) k = x := ⟨_, rfl⟩
  obtain ⟨hn, ehn⟩ : ∃ x, hasI (codes s) n = x := ⟨_, rfl⟩
  obtain ⟨e1, ee1⟩ : ∃ x : Int, (if c then 0 else 16) = x := ⟨_, rfl⟩
  obtain ⟨e2, ee2⟩ : ∃ x : Int, (if d then 0 else 16) = x := ⟨_, rfl⟩
  obtain ⟨⟨n0, n1⟩, k0, k1⟩ := HNK.out
  have h1 := Kp.mk (fun w => HC.out.next w hs n0 n1 hb hu)
  have h2 := Kp.mk (fun w => HC.out.prev w hs n0 n1 hb hv)
  have h3 := Kp.mk (fun w => refNext_is w hs hb hu)
  have h4 := Kp.mk (fun w => refPrev_is w hs hb hv)
  have h5 := Kp.mk (fun w => gives_is w (gives_same u c (nextR_zero hu)))
  have h6 := Kp.mk (fun w => gives_is w (gives_same v d (prevR_zero hv)))
  have h7 := Kp.mk (fun w => HC.out.has w hs k0 k1 ehk)
  have h8 := Kp.mk (fun w => HC.out.has w hs n0 n1 ehn)
  have f1 : hk = true → n ≤ k → c = true ∧ u ≤ k := fun g => by subst g; exact next_least hs.ok hb hu ehk
  have f2 : hk = true → k ≤ n → d = true ∧ k ≤ v := fun g => by subst g; exact prev_most hs.ok hb hv ehk
  have f3 : hn = true → u = n ∧ v = n := fun g => by
    subst g
    have a1 := next_least hs.ok hb hu ehn (Int.le_refl _)
    have a2 := prev_most hs.ok hb hv ehn (Int.le_refl _)
    have a3 := next_there hb hu a1.1
    have a4 := prev_there hb hv a2.1
    omega
  rw [ee1] at h1 h5
  rw [ee2] at h2 h6
  have F1 := Kp.mk f1
  have F2 := Kp.mk f2
  have F3 := Kp.mk f3
  clear f1 f2 f3 hu hv hb ehk ehn hs ee1 ee2 n0 n1 k0 k1
  go_wp2_with fail
  refine (h1.out _).mono ?_
  rintro e w' ⟨rfl, hbl⟩
  have HB := Kp.mk (HB.out.trans (hbl.mono HB.out.size))
  clear hbl
  go_wp2_with fail
  refine (h2.out _).mono ?_
  rintro e w' ⟨rfl, hbl⟩
  have HB := Kp.mk (HB.out.trans (hbl.mono HB.out.size))
  clear hbl
  go_wp2_with fail
  refine (h3.out _).mono ?_
  rintro e w' ⟨rfl, rfl⟩
  go_wp2_with fail
  refine (h4.out _).mono ?_
  rintro e w' ⟨rfl, rfl⟩
  go_wp2_with fail
  refine (h5.out _).mono ?_
  rintro e w' ⟨rfl, rfl⟩
  go_wp2_with fail
  refine (h6.out _).mono ?_
  rintro e w' ⟨rfl, rfl⟩
  go_wp2_with fail
  refine (h7.out _).mono ?_
  rintro e w' ⟨rfl, hbl⟩
  have HB := Kp.mk (HB.out.trans (hbl.mono HB.out.size))
  clear hbl
  cases hk
  · go_wp2_with fail
    refine (h8.out _).mono ?_
    rintro e w' ⟨rfl, hbl⟩
    have HB := Kp.mk (HB.out.trans (hbl.mono HB.out.size))
    clear hbl
    cases hn
    · go_wp2_with fail
      refine (HC.out.lives _).mono ?_
      rintro e w' ⟨rfl, hbl⟩
      have HB2 := Kp.mk (HB.out.trans (hbl.mono HB.out.size))
      clear hbl
      go_wp2_with fail
      go_ret
      exact ⟨rfl, HB2.out⟩
    · obtain ⟨g1, g2⟩ := F3.out rfl
      subst g1
      subst g2
      go_wp2_with fail
      refine (HC.out.lives _).mono ?_
      rintro e w' ⟨rfl, hbl⟩
      have HB2 := Kp.mk (HB.out.trans (hbl.mono HB.out.size))
      clear hbl
      go_wp2_with fail
      go_ret
      exact ⟨rfl, HB2.out⟩
  · by_cases t1 : n ≤ k
    · obtain ⟨rfl, g2⟩ := F1.out rfl t1
      have g3 : ¬ k < u := by omega
      by_cases t2 : k ≤ n
      · obtain ⟨rfl, g4⟩ := F2.out rfl t2
        have g5 : ¬ v < k := by omega
        go_wp2_with fail
        refine (h8.out _).mono ?_
        rintro e w' ⟨rfl, hbl⟩
        have HB := Kp.mk (HB.out.trans (hbl.mono HB.out.size))
        clear hbl
        cases hn
        · go_wp2_with fail
          refine (HC.out.lives _).mono ?_
          rintro e w' ⟨rfl, hbl⟩
          have HB2 := Kp.mk (HB.out.trans (hbl.mono HB.out.size))
          clear hbl
          go_wp2_with fail
          go_ret
          exact ⟨rfl, HB2.out⟩
        · obtain ⟨g1, g2⟩ := F3.out rfl
          subst g1
          subst g2
          go_wp2_with fail
          refine (HC.out.lives _).mono ?_
          rintro e w' ⟨rfl, hbl⟩
          have HB2 := Kp.mk (HB.out.trans (hbl.mono HB.out.size))
          clear hbl
          go_wp2_with fail
          go_ret
          exact ⟨rfl, HB2.out⟩
      · go_wp2_with fail
        refine (h8.out _).mono ?_
        rintro e w' ⟨rfl, hbl⟩
        have HB := Kp.mk (HB.out.trans (hbl.mono HB.out.size))
        clear hbl
        cases hn
        · go_wp2_with fail
          refine (HC.out.lives _).mono ?_
          rintro e w' ⟨rfl, hbl⟩
          have HB2 := Kp.mk (HB.out.trans (hbl.mono HB.out.size))
          clear hbl
          go_wp2_with fail
          go_ret
          exact ⟨rfl, HB2.out⟩
        · obtain ⟨g1, g2⟩ := F3.out rfl
          subst g1
          subst g2
          go_wp2_with fail
          refine (HC.out.lives _).mono ?_
          rintro e w' ⟨rfl, hbl⟩
          have HB2 := Kp.mk (HB.out.trans (hbl.mono HB.out.size))
          clear hbl
          go_wp2_with fail
          go_ret
          exact ⟨rfl, HB2.out⟩
    · obtain ⟨rfl, g4⟩ := F2.out rfl (by omega)
      have t2 : k ≤ n := by omega
      have g5 : ¬ v < k := by omega
      go_wp2_with fail
      refine (h8.out _).mono ?_
      rintro e w' ⟨rfl, hbl⟩
      have HB := Kp.mk (HB.out.trans (hbl.mono HB.out.size))
      clear hbl
      cases hn
      · go_wp2_with fail
        refine (HC.out.lives _).mono ?_
        rintro e w' ⟨rfl, hbl⟩
        have HB2 := Kp.mk (HB.out.trans (hbl.mono HB.out.size))
        clear hbl
        go_wp2_with fail
        go_ret
        exact ⟨rfl, HB2.out⟩
      · obtain ⟨g1, g2⟩ := F3.out rfl
        subst g1
        subst g2
        go_wp2_with fail
        refine (HC.out.lives _).mono ?_
        rintro e w' ⟨rfl, hbl⟩
        have HB2 := Kp.mk (HB.out.trans (hbl.mono HB.out.size))
        clear hbl
        go_wp2_with fail
        go_ret
        exact ⟨rfl, HB2.out⟩
end Go.Proofs.Ytabhfpfnaaihjaa
