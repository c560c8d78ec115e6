/-
  DERIVED. WALK of the law MasksErrors, given the contracts of package masks. Written by mkmkerrors.py.
-/
import Derived.Test.YtabhfpfnaaihjaaMkNumbers
import Derived.Test.YtabhfpfnaaihjaaMkComMath
import Derived.Laws.Closers25
namespace Go.Proofs.Ytabhfpfnaaihjaa
open Go.RowKit

/-- what Common gives for two masks -/
def comE (a b : ByteArray) : ByteArray × Int := if a.size = b.size then (if comOk (fwd a) (fwd b) = true then (comS a b, 0) else (⟨#[]⟩, 16)) else (⟨#[]⟩, 1)
/-- what package masks gives for strings that are no masks; Common -/
structure MaskBad : Prop where
  check : ∀ {s : ByteArray} {c : Int} (w : World), s.size ≤ 40 → checkI s = c → Calls Try.prog 15 #[.string s] w fun e w' => e = .returned (.int .i64 c) ∧ Below w.heap.size w w'
  has : ∀ {s : ByteArray} {n c : Int} (w : World), s.size ≤ 40 → -9223372036854775808 ≤ n → n ≤ 9223372036854775807 → checkI s = c → ¬ c = 0 → Calls Try.prog 19 #[.string s, .int .i64 n] w fun e w' => e = .returned (.bool false) ∧ Below w.heap.size w w'
  common : ∀ {s t u : ByteArray} {c : Int} (w : World), Mk s → Mk t → comE s t = (u, c) → Calls Try.prog 28 #[.string s, .string t] w fun e w' => e = .returned (.tuple #[.string u, .int .i64 c]) ∧ Below w.heap.size w w'
  common_bad : ∀ {s t : ByteArray} {c : Int} (w : World), s.size ≤ 40 → t.size ≤ 40 → ¬ c = 0 → (checkI s = c ∨ checkI s = 0 ∧ checkI t = c) → Calls Try.prog 28 #[.string s, .string t] w fun e w' => e = .returned (.tuple #[.string ⟨#[]⟩, .int .i64 c]) ∧ Below w.heap.size w w'
  count : ∀ {s : ByteArray} {c : Int} (w : World), s.size ≤ 40 → checkI s = c → ¬ c = 0 → Calls Try.prog 9 #[.string s] w fun e w' => e = .returned (.tuple #[.int .i64 0, .int .i64 c]) ∧ Below w.heap.size w w'
  least : ∀ {s : ByteArray} {c : Int} (w : World), s.size ≤ 40 → checkI s = c → ¬ c = 0 → Calls Try.prog 10 #[.string s] w fun e w' => e = .returned (.tuple #[.int .i64 0, .int .i64 c]) ∧ Below w.heap.size w w'
  greatest : ∀ {s : ByteArray} {c : Int} (w : World), s.size ≤ 40 → checkI s = c → ¬ c = 0 → Calls Try.prog 11 #[.string s] w fun e w' => e = .returned (.tuple #[.int .i64 0, .int .i64 c]) ∧ Below w.heap.size w w'
  next : ∀ {s : ByteArray} {n c : Int} (w : World), s.size ≤ 40 → -9223372036854775808 ≤ n → n ≤ 9223372036854775807 → checkI s = c → ¬ c = 0 → Calls Try.prog 24 #[.string s, .int .i64 n] w fun e w' => e = .returned (.tuple #[.int .i64 0, .int .i64 c]) ∧ Below w.heap.size w w'
  prev : ∀ {s : ByteArray} {n c : Int} (w : World), s.size ≤ 40 → -9223372036854775808 ≤ n → n ≤ 9223372036854775807 → checkI s = c → ¬ c = 0 → Calls Try.prog 25 #[.string s, .int .i64 n] w fun e w' => e = .returned (.tuple #[.int .i64 0, .int .i64 c]) ∧ Below w.heap.size w w'
  nth : ∀ {s : ByteArray} {n c : Int} (w : World), s.size ≤ 40 → -9223372036854775808 ≤ n → n ≤ 9223372036854775807 → checkI s = c → ¬ c = 0 → Calls Try.prog 16 #[.string s, .int .i64 n] w fun e w' => e = .returned (.tuple #[.int .i64 0, .int .i64 c]) ∧ Below w.heap.size w w'
  index : ∀ {s : ByteArray} {n c : Int} (w : World), s.size ≤ 40 → -9223372036854775808 ≤ n → n ≤ 9223372036854775807 → checkI s = c → ¬ c = 0 → Calls Try.prog 18 #[.string s, .int .i64 n] w fun e w' => e = .returned (.tuple #[.int .i64 0, .int .i64 c]) ∧ Below w.heap.size w w'
theorem badB_self (c : Int) : badB 0 c c = true := by unfold badB; simp
set_option maxRecDepth 100000 in
set_option maxHeartbeats 1000000 in
theorem lawErrors_long (C : MaskFns) {s t : ByteArray} (n : Int) (w : World) (h : 40 < s.size ∨ s.size ≤ 40 ∧ 40 < t.size) :
    Calls Try.prog 6 #[.string s, .string t, .int .i64 n] w fun e w' => e = .returned (.bool true) ∧ Below w.heap.size w w' := by
  have HC := Kp.mk C
  clear C
  rcases h with h | ⟨h1, h2⟩
  · have b1 : (40 : Int) < (s.size : Int) := by omega
    go_enter Try.func6, Try.ntmps6
    go_wp2_with fail
    refine (HC.out.lives _).mono ?_
    rintro e w' ⟨rfl, hbl⟩
    have HB2 := Kp.mk hbl
    clear hbl
    go_wp2_with fail
    go_ret
    exact ⟨rfl, HB2.out⟩
  · have b1 : ¬ (40 : Int) < (s.size : Int) := by omega
    have b2 : (40 : Int) < (t.size : Int) := by omega
    go_enter Try.func6, Try.ntmps6
    go_wp2_with fail
    refine (HC.out.lives _).mono ?_
    rintro e w' ⟨rfl, hbl⟩
    have HB2 := Kp.mk hbl
    clear hbl
    go_wp2_with fail
    go_ret
    exact ⟨rfl, HB2.out⟩
set_option maxRecDepth 100000 in
set_option maxHeartbeats 4000000 in
theorem lawErrors_short (C : MaskFns) (D : MaskBad) {s t : ByteArray} (n : Int) (w : World) (h1 : s.size ≤ 40) (h2 : t.size ≤ 40) (n0 : -9223372036854775808 ≤ n) (n1 : n ≤ 9223372036854775807) :
    Calls Try.prog 6 #[.string s, .string t, .int .i64 n] w fun e w' => e = .returned (.bool true) ∧ Below w.heap.size w w' := by
  obtain ⟨c, ec⟩ : ∃ x, checkI s = x := ⟨_, rfl⟩
  obtain ⟨d, ed⟩ : ∃ x, checkI t = x := ⟨_, rfl⟩
  have HL := Kp.mk C.lives
  have HB := Kp.mk (Below.refl w.heap.size w)
  have r1 := Kp.mk (fun w => refCheck_is w (by omega) ec)
  have r2 := Kp.mk (fun w => refCheck_is w (by omega) ed)
  have r3 := Kp.mk (fun w => D.check w h1 ec)
  have r4 := Kp.mk (fun w => D.check w h2 ed)
  have b1 : ¬ (40 : Int) < (s.size : Int) := by omega
  have b2 : ¬ (40 : Int) < (t.size : Int) := by omega
  by_cases hc : c = 0
  · have hs : Mk s := mk_of_check (ec.trans hc)
    by_cases hd : d = 0
    · have ht : Mk t := mk_of_check (ed.trans hd)
      obtain ⟨⟨u, x⟩, eu⟩ : ∃ x, comE s t = x := ⟨_, rfl⟩
      have r5 := Kp.mk (fun w => D.common w hs ht eu)
      subst hc
      subst hd
      clear hs ht eu ec ed h1 h2 n0 n1 C D
      go_enter Try.func6, Try.ntmps6
      go_wp2_with fail
      refine (r1.out _).mono ?_
      rintro e w' ⟨rfl, rfl⟩
      go_wp2_with fail
      refine (r2.out _).mono ?_
      rintro e w' ⟨rfl, rfl⟩
      go_wp2_with fail
      refine (r3.out _).mono ?_
      rintro e w' ⟨rfl, hbl⟩
      have HB := Kp.mk (HB.out.trans (hbl.mono HB.out.size))
      clear hbl
      go_wp2_with fail
      refine (r4.out _).mono ?_
      rintro e w' ⟨rfl, hbl⟩
      have HB := Kp.mk (HB.out.trans (hbl.mono HB.out.size))
      clear hbl
      go_wp2_with fail
      refine (r5.out _).mono ?_
      rintro e w1 ⟨rfl, hb1⟩
      have HB := Kp.mk (HB.out.trans (hb1.mono HB.out.size))
      clear hb1
      go_wp2_with fail
      refine (HL.out _).mono ?_
      rintro e w' ⟨rfl, hbl⟩
      have HB2 := Kp.mk (HB.out.trans (hbl.mono HB.out.size))
      clear hbl
      go_wp2_with fail
      go_ret
      exact ⟨rfl, HB2.out⟩
    · have r5 := Kp.mk (fun w => D.common_bad w h1 h2 hd (.inr ⟨ec.trans hc, ed⟩))
      have t1 : (d != 0) = true := by rw [bne_iff_ne]; exact hd
      subst hc
      clear hs ec ed h1 h2 n0 n1 C D hd
      go_enter Try.func6, Try.ntmps6
      go_wp2_with fail
      refine (r1.out _).mono ?_
      rintro e w' ⟨rfl, rfl⟩
      go_wp2_with fail
      refine (r2.out _).mono ?_
      rintro e w' ⟨rfl, rfl⟩
      go_wp2_with fail
      refine (r3.out _).mono ?_
      rintro e w' ⟨rfl, hbl⟩
      have HB := Kp.mk (HB.out.trans (hbl.mono HB.out.size))
      clear hbl
      go_wp2_with fail
      refine (r4.out _).mono ?_
      rintro e w' ⟨rfl, hbl⟩
      have HB := Kp.mk (HB.out.trans (hbl.mono HB.out.size))
      clear hbl
      go_wp2_with fail
      refine (r5.out _).mono ?_
      rintro e w1 ⟨rfl, hb1⟩
      have HB := Kp.mk (HB.out.trans (hb1.mono HB.out.size))
      clear hb1
      go_wp2_with fail
      refine (HL.out _).mono ?_
      rintro e w' ⟨rfl, hbl⟩
      have HB2 := Kp.mk (HB.out.trans (hbl.mono HB.out.size))
      clear hbl
      go_wp2_with fail
      go_ret
      exact ⟨rfl, HB2.out⟩
  · have r5 := Kp.mk (fun w => D.common_bad w h1 h2 hc (.inl ec))
    have t1 : (c != 0) = true := by rw [bne_iff_ne]; exact hc
    have t2 : (c == 0) = false := by rw [beq_eq_false_iff_ne]; exact hc
    have rb := Kp.mk (fun w => bad_is w (badB_self c))
    have rh := Kp.mk (fun w => D.has w h1 n0 n1 ec hc)
    have rCount := Kp.mk (fun w => D.count w h1 ec hc)
    have rLeast := Kp.mk (fun w => D.least w h1 ec hc)
    have rGreatest := Kp.mk (fun w => D.greatest w h1 ec hc)
    have rNext := Kp.mk (fun w => D.next w h1 n0 n1 ec hc)
    have rPrev := Kp.mk (fun w => D.prev w h1 n0 n1 ec hc)
    have rNth := Kp.mk (fun w => D.nth w h1 n0 n1 ec hc)
    have rIndex := Kp.mk (fun w => D.index w h1 n0 n1 ec hc)
    clear ec ed h1 h2 n0 n1 C D hc
    go_enter Try.func6, Try.ntmps6
    go_wp2_with fail
    refine (r1.out _).mono ?_
    rintro e w' ⟨rfl, rfl⟩
    go_wp2_with fail
    refine (r2.out _).mono ?_
    rintro e w' ⟨rfl, rfl⟩
    go_wp2_with fail
    refine (r3.out _).mono ?_
    rintro e w' ⟨rfl, hbl⟩
    have HB := Kp.mk (HB.out.trans (hbl.mono HB.out.size))
    clear hbl
    go_wp2_with fail
    refine (r4.out _).mono ?_
    rintro e w' ⟨rfl, hbl⟩
    have HB := Kp.mk (HB.out.trans (hbl.mono HB.out.size))
    clear hbl
    go_wp2_with fail
    refine (r5.out _).mono ?_
    rintro e w1 ⟨rfl, hb1⟩
    have HB := Kp.mk (HB.out.trans (hb1.mono HB.out.size))
    clear hb1
    go_wp2_with fail
    refine (rCount.out _).mono ?_
    rintro e w' ⟨rfl, hbl⟩
    have HB := Kp.mk (HB.out.trans (hbl.mono HB.out.size))
    clear hbl
    go_wp2_with fail
    refine (rLeast.out _).mono ?_
    rintro e w' ⟨rfl, hbl⟩
    have HB := Kp.mk (HB.out.trans (hbl.mono HB.out.size))
    clear hbl
    go_wp2_with fail
    refine (rGreatest.out _).mono ?_
    rintro e w' ⟨rfl, hbl⟩
    have HB := Kp.mk (HB.out.trans (hbl.mono HB.out.size))
    clear hbl
    go_wp2_with fail
    refine (rNext.out _).mono ?_
    rintro e w' ⟨rfl, hbl⟩
    have HB := Kp.mk (HB.out.trans (hbl.mono HB.out.size))
    clear hbl
    go_wp2_with fail
    refine (rPrev.out _).mono ?_
    rintro e w' ⟨rfl, hbl⟩
    have HB := Kp.mk (HB.out.trans (hbl.mono HB.out.size))
    clear hbl
    go_wp2_with fail
    refine (rNth.out _).mono ?_
    rintro e w' ⟨rfl, hbl⟩
    have HB := Kp.mk (HB.out.trans (hbl.mono HB.out.size))
    clear hbl
    go_wp2_with fail
    refine (rIndex.out _).mono ?_
    rintro e w' ⟨rfl, hbl⟩
    have HB := Kp.mk (HB.out.trans (hbl.mono HB.out.size))
    clear hbl
    go_wp2_with fail
    refine (rb.out _).mono ?_
    rintro e w' ⟨rfl, rfl⟩
    go_wp2_with fail
    refine (rb.out _).mono ?_
    rintro e w' ⟨rfl, rfl⟩
    go_wp2_with fail
    refine (rb.out _).mono ?_
    rintro e w' ⟨rfl, rfl⟩
    go_wp2_with fail
    refine (rb.out _).mono ?_
    rintro e w' ⟨rfl, rfl⟩
    go_wp2_with fail
    refine (rb.out _).mono ?_
    rintro e w' ⟨rfl, rfl⟩
    go_wp2_with fail
    refine (rb.out _).mono ?_
    rintro e w' ⟨rfl, rfl⟩
    go_wp2_with fail
    refine (rb.out _).mono ?_
    rintro e w' ⟨rfl, rfl⟩
    go_wp2_with fail
    refine (rh.out _).mono ?_
    rintro e w' ⟨rfl, hbl⟩
    have HB := Kp.mk (HB.out.trans (hbl.mono HB.out.size))
    clear hbl
    go_wp2_with fail
    refine (HL.out _).mono ?_
    rintro e w' ⟨rfl, hbl⟩
    have HB2 := Kp.mk (HB.out.trans (hbl.mono HB.out.size))
    clear hbl
    go_wp2_with fail
    go_ret
    exact ⟨rfl, HB2.out⟩
theorem lawErrors_any (C : MaskFns) (D : MaskBad) {s t : ByteArray} (n : Int) (w : World) (n0 : -9223372036854775808 ≤ n) (n1 : n ≤ 9223372036854775807) :
    Calls Try.prog 6 #[.string s, .string t, .int .i64 n] w fun e w' => e = .returned (.bool true) ∧ Below w.heap.size w w' := by
  by_cases h : 40 < s.size ∨ s.size ≤ 40 ∧ 40 < t.size
  · exact lawErrors_long C n w h
  · exact lawErrors_short C D n w (by omega) (by omega) n0 n1
end Go.Proofs.Ytabhfpfnaaihjaa
