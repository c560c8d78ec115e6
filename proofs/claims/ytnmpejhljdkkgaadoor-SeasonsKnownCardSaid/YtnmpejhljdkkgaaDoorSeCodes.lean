/-
  DERIVED. CONTRACTS of package seasons: Codes; all of them together.
-/
import Derived.Test.YtnmpejhljdkkgaaDoorSeDevB
import Derived.Test.YtnmpejhljdkkgaaDoorSeOf
import Derived.Test.YtnmpejhljdkkgaaDoorSeLives
namespace Go.Proofs.YtnmpejhljdkkgaaDoor
open Go.RowKit
set_option maxRecDepth 100000

theorem clip_is (p : Option Addr) (n k : Nat) (w : World) (h : n ≤ k) : Calls Tryd.prog 29 #[.slice p n k] w fun e w' => e = .returned (.slice p n n) ∧ w = w' := by
  go_enter Tryd.func29, Tryd.ntmps29
  go_wp2_with fail
  go_ret
  exact ⟨rfl, rfl⟩
theorem scodes_out {y d : Int} (d0 : -9223372036854775808 ≤ d) (d1 : d ≤ 9223372036854775807) (hd : YearHas y d) (hy : isY y = false) (w : World) (hL : LaidSe w) :
    Calls Tryd.prog 15 #[.int .i64 d] w fun x w' => ∃ p k, x = .returned (.tuple #[.slice p 0 k, .int .i64 6]) ∧ Below w.heap.size w w' := by
  have HB := Kp.mk (Below.refl w.heap.size w)
  have HL := Kp.mk hL
  have r1 := Kp.mk (fun w (h : LaidSe w) => sof_out d0 d1 (c := 21) (by omega) (by omega) (by decide) hd hy w h)
  clear d0 d1 hd hy hL
  go_enter Tryd.func15, Tryd.ntmps15
  go_wp2_with fail
  go_loopw [9] (fun i wr => i = .int .i64 0 ∧ wr = w) (fun _ _ => 0)
  case atStart => exact ⟨rfl, rfl⟩
  case round =>
    obtain ⟨rfl, rfl⟩ := hrel
    go_wp2_with fail
    refine (r1.out _ (HL.out.below HB.out)).mono ?_
    rintro e w' ⟨rfl, hbl⟩
    have HB := Kp.mk (HB.out.trans (hbl.mono HB.out.size))
    clear hbl
    go_wp2_with fail
    go_ret2
    exact ⟨_, _, rfl, HB.out⟩
set_option maxHeartbeats 4000000 in
theorem scodes_in {y d : Int} {L : List Int} (d0 : -9223372036854775808 ≤ d) (d1 : d ≤ 9223372036854775807) (hd : YearHas y d) (hy : isY y = true) (hl : codesL y d = L) (w : World) (hL : LaidSe w) :
    Calls Tryd.prog 15 #[.int .i64 d] w fun x w' => ∃ v, SlI w' v L L.length ∧ x = .returned (.tuple #[v, .int .i64 0]) ∧ Below w.heap.size w w' := by
  have HLL := Kp.mk (show preL y d 21 = L from hl)
  have hlen := preL_len y d 21
  rw [HLL.out] at hlen
  have HLEN := Kp.mk hlen
  have HL := Kp.mk hL
  obtain ⟨i0, hi, hz0, hz1, hz2⟩ := infoI
  have r6 := Kp.mk (fun (c : Int) (h1 : 21 ≤ c) (h2 : c ≤ 41) w (h : LaidSe w) => sof_in (z := ofY y c d) (b := ofB y c d) d0 d1 (by omega) (by omega) (fun q => absurd ((many_zero c).1 q) (by omega)) hd hy rfl rfl w h)
  clear d0 d1 hd hy hL hl hlen
  go_enter Tryd.func15, Tryd.ntmps15
  go_wp2_with fail
  have HC := Kp.mk (show CodesRel w y d 0 (.slice none 0 0) w from ⟨Below.refl _ _, World.ownsRow_nil _ _ _ _⟩)
  go_loopw [4, 9] (fun cs k wr => ∃ (n : Nat) (v : Value), n ≤ 21 ∧ k = .int .i64 (n : Int) ∧ v = cs ∧ Kp (CodesRel w y d n v wr)) (fun _ k _ => (21 - intOf k).toNat)
  case atStart => exact ⟨0, _, by omega, rfl, rfl, HC⟩
  case round =>
    obtain ⟨n, v, hn, rfl, rfl, HC⟩ := hrel
    by_cases hlt : n < 21
    · have w1 : IntKind.i64.wrap ((n : Int) + 1) = (n : Int) + 1 := IntWalk.i64_in _ (by omega)
      have w2 : IntKind.i64.wrap (21 + (n : Int)) = 21 + (n : Int) := IntWalk.i64_in _ (by omega)
      obtain ⟨b, hb⟩ : ∃ b, ofB y (21 + (n : Int)) d = b := ⟨_, rfl⟩
      have r8 : Kp (∀ w, LaidSe w → Calls Tryd.prog 14 #[.int .i64 d, .int .i64 (21 + (n : Int))] w fun x w' => x = .returned (.tuple #[.int .i64 (ofY y (21 + (n : Int)) d), .bool b, .int .i64 0]) ∧ Below w.heap.size w w') := Kp.mk (fun w h => by have := r6.out (21 + (n : Int)) (by omega) (by omega) w h; rw [hb] at this; exact this)
      have HN := Kp.mk hb
      clear hb
      go_wp2_with fail
      refine (r8.out _ (HL.out.below HC.out.below)).mono ?_
      rintro e wa ⟨rfl, hbl⟩
      have HC := Kp.mk (HC.out.step hbl)
      clear hbl
      cases b
      · go_wp2_with fail
        go_roundw
        case rel => exact ⟨n + 1, v, by omega, by go_num, rfl, Kp.mk (HC.out.skip hlt HN.out)⟩
        case measure => simp [intOf]; omega
      · go_wp2_with (at_builtin; refine wpList_append_own _ rfl (.tmp 24) (.tmp 27) 42 rfl w.heap.size 3 i0 (.int .i64 0) 1 8 Tryd.underlying42 hi hz0 hz1 hz2 rfl (by decide) v (preL y d n).length (vI (preL y d n)) rfl (HC.out.own.alloc _) ⟨wa.heap.size, 0, none⟩ 1 1 [.int .i64 (21 + (n : Int))] rfl rfl ?c1 ?c2 ?c3 ?c4 ?c5 ?_)
        case c1 => exact one_row _ _ _
        case c2 => intro u hu; simp at hu; subst hu; rfl
        case c3 => have := preL_len y d n; unfold maxLen; omega
        case c4 => have := preL_len y d n; omega
        case c5 => have := HC.out.below.size; simp; omega
        intro v' w' hown' hgrow _
        obtain ⟨a', cap', rfl⟩ := own_form hown'
        have HC := Kp.mk (HC.out.add hlt HN.out _ hown' hgrow)
        clear hown' hgrow
        go_wp2_with fail
        go_roundw
        case rel => exact ⟨n + 1, _, by omega, by go_num, rfl, HC⟩
        case measure => simp [intOf]; omega
    · obtain rfl : n = 21 := by omega
      have HO := Kp.mk HC.out.own
      rw [HLL.out] at HO
      obtain ⟨p, cap, rfl⟩ := own_form HO.out
      have hcap : L.length ≤ cap := by
        obtain ⟨_, ⟨he, hn⟩ | ⟨g, cap', cur, he, _, _, hc, hm, _, _⟩⟩ := HO.out
        · omega
        · simp at he; omega
      obtain ⟨kk, hsl⟩ := own_sl HO.out (by have := HLEN.out; omega)
      have HS : Kp (SlI wr (.slice p L.length L.length) L L.length) := Kp.mk (by
        rcases hsl with ⟨e, q, hv⟩ | ⟨g, o, hv, r⟩
        · rw [e]; exact .inl ⟨rfl, p, rfl⟩
        · simp at hv; obtain ⟨hv, _⟩ := hv; subst hv; exact .inr ⟨g, o, rfl, r⟩)
      have HB := Kp.mk HC.out.below
      have r9 := Kp.mk (fun w => clip_is p L.length cap w hcap)
      clear hsl hn hlt HC HO hcap
      go_wp2_with fail
      refine (r9.out _).mono ?_
      rintro e w' ⟨rfl, rfl⟩
      go_wp2_with fail
      go_ret2
      exact ⟨_, HS.out, rfl, HB.out⟩
theorem seaCore : SeaCore LaidSe where
  keep h hb := h.below hb
  check w _ c0 c1 he := same_below (scheck_is c0 c1 he w)
  months w hL c0 c1 hf hm he := smonths_is c0 c1 hf hm he w hL
  run w hL _ _ c0 c1 he hr := srun_is c0 c1 he hr w hL
  of_code w hL _ _ c0 c1 h0 := sof_code c0 c1 h0 w hL
  of_out w hL d0 d1 c0 c1 h0 hd hy := sof_out d0 d1 c0 c1 h0 hd hy w hL
  of_in w hL d0 d1 c0 c1 h0 hd hy hz hb := sof_in d0 d1 c0 c1 h0 hd hy hz hb w hL
  codes_out w hL d0 d1 hd hy := scodes_out d0 d1 hd hy w hL
  codes_in w hL d0 d1 hd hy hl := scodes_in d0 d1 hd hy hl w hL
theorem seaFns : SeaFns LaidSe := { seaCore with lives := fun w hI => lives_of seaCore w hI }
end Go.Proofs.YtnmpejhljdkkgaaDoor
