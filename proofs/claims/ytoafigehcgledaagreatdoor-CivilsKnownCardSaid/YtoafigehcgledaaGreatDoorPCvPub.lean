/-
  DERIVED. What package civils gives, all of it: Parse for any text; the structures of contracts filled.
-/
import Derived.Test.YtoafigehcgledaaGreatDoorPCvPar
import Derived.Test.YtoafigehcgledaaGreatDoorPCvLives
namespace Go.Proofs.YtoafigehcgledaaGreatDoor
open Go.RowKit
set_option maxRecDepth 100000

theorem n2_ok {a b : UInt8} (ha : dig a) (hb : dig b) (W : World) :
    Calls Tryz.prog 51 #[.string ⟨#[]⟩, .string (bs [a, b]), .int .i64 2] W fun e w' => e = .returned (.int .i64 (tv a b)) ∧ Below W.heap.size W w' := by
  have hd : ∀ x ∈ [a, b], dig x := by intro x hx; simp at hx; rcases hx with rfl | rfl <;> assumption
  have hs : ([] : List UInt8) = [] ∨ ([] : List UInt8) = [45] := .inl rfl
  have hF := (strz_form (k := 2) (by decide) (by simp) hd hs).2 ⟨fun h => by simp at h, fun h => by simp at h⟩
  have hv := strz_text (k := 2) hd hs
  rw [if_neg (by decide)] at hv
  have e : ((valM 0 [a, b] : Nat) : Int) = tv a b := by
    unfold tv
    rw [valM_cons, valM_cons, valM_nil]
    unfold dig at ha hb
    simp
    omega
  have hin := tv_in ha hb
  exact num_in (k := 2) (by decide) (by decide) (by simp) (by simp) hd hs hF (hv.trans e) (by omega) (by omega) W
theorem n2_bad {p : List UInt8} (hl : p.length ≤ 2) (h : ¬ ∃ a b, p = [a, b] ∧ dig a ∧ dig b) (W : World) :
    Calls Tryz.prog 51 #[.string ⟨#[]⟩, .string (bs p), .int .i64 2] W fun e w' => e = pan 5 ∧ Below W.heap.size W w' := by
  by_cases h2 : p.length < 2
  · exact num_short (k := 2) (sg := []) h2 W
  · refine num_other (k := 2) (sg := []) (by omega) (by omega) (fun hd => h ?_) W
    match p, hl, h2, hd with
    | [], _, h2, _ => exact absurd (by simp) h2
    | [_], _, h2, _ => exact absurd (by simp) h2
    | [a, b], _, _, hd => exact ⟨a, b, rfl, hd a (by simp), hd b (by simp)⟩
/-- a text and its two parts behind the year -/
structure Ends (l z : List UInt8) (a b c d : UInt8) : Prop where
  eq : l = z ++ [45, a, b, 45, c, d]
theorem Ends.k1 {l z : List UInt8} {a b c d : UInt8} (h : Ends l z a b c d) : l.length - 3 = z.length + 3 := by rw [h.eq]; simp
theorem Ends.z1 {l z : List UInt8} {a b c d : UInt8} (h : Ends l z a b c d) : l.take (z.length + 3) = z ++ [45, a, b] := by
  rw [h.eq, show z ++ [45, a, b, 45, c, d] = (z ++ [45, a, b]) ++ [45, c, d] by simp, List.take_append_of_le_length (by simp), List.take_of_length_le (by simp)]
theorem Ends.p1 {l z : List UInt8} {a b c d : UInt8} (h : Ends l z a b c d) : l.drop (z.length + 3) = 45 :: [c, d] := by
  rw [h.eq, show z ++ [45, a, b, 45, c, d] = (z ++ [45, a, b]) ++ [45, c, d] by simp, List.drop_append_of_le_length (by simp), List.drop_of_length_le (by simp)]; rfl
theorem ends2 (z : List UInt8) (a b : UInt8) : (z ++ [45, a, b]).length - 3 = z.length ∧ (z ++ [45, a, b]).take z.length = z ∧ (z ++ [45, a, b]).drop z.length = 45 :: [a, b] := by
  refine ⟨by simp, by simp, by simp⟩
/-- the year of a text of the form -/
theorem form_year {l : List UInt8} {neg : Bool} {yr : List UInt8} {a b c d : UInt8} (h : CvForm l neg yr a b c d) :
    ∃ sg, sg = (if neg then [45] else []) ∧ Ends l (sg ++ yr) a b c d ∧ Parted (sg ++ yr) sg yr ∧ (sg = [] ∨ sg = [45]) ∧ Form (sg ++ stripZ 4 yr) ∧ textVal (sg ++ stripZ 4 yr) = yv neg yr := by
  refine ⟨_, rfl, ⟨h.eq⟩, ⟨rfl, ?_⟩, by cases neg <;> simp, ?_, ?_⟩
  · cases neg
    · right
      refine ⟨rfl, ?_⟩
      have h4 := h.four
      match yr, h4, h.ds with
      | x :: r, _, hd => exact fun e => by have := hd x (by simp); rw [show x = 45 by simpa using e] at this; exact minus_dig this
    · left; rfl
  · rw [strz_form (k := 4) (by decide) h.four h.ds (by cases neg <;> simp)]
    refine ⟨h.lead, fun g => h.nz ?_⟩
    have hv := strz_val 4 yr
    rw [g.2] at hv
    exact ⟨by cases neg <;> simp at g ⊢, zero_four h.ds h.four h.lead (by rw [← hv]; rfl)⟩
  · rw [strz_text h.ds (by cases neg <;> simp)]
    unfold yv
    cases neg <;> simp
theorem chk_year {y m d : Int} (h : ¬ (-9223372036854775808 ≤ y ∧ y ≤ 9223372036854775807)) : chkC y m d = 6 := by
  have h2 : isY y = false := by
    cases e : isY y with
    | false => rfl
    | true => exact absurd ((isY_iff y).1 e) (by omega)
  unfold chkC chkM
  simp [h2]
theorem dPar_form {l : List UInt8} {neg : Bool} {yr : List UInt8} {a b c d : UInt8} {e : Int} (h : CvForm l neg yr a b c d) (hl : l.length ≤ 100) (he : chkC (yv neg yr) (tv a b) (tv c d) = e) (w : World) (hL : LaidCv w) :
    Calls Tryz.prog 28 #[.string (bs l)] w fun x w' => x = .returned (.tuple #[if e = 0 then .agg #[.int .i64 (yv neg yr), .int .i64 (tv a b), .int .i64 (tv c d)] else .agg #[.int .i64 0, .int .i64 0, .int .i64 0], .int .i64 e]) ∧ Below w.heap.size w w' := by
  obtain ⟨sg, _, hE, hP, hs, hF, hv⟩ := form_year h
  have h2 := ends2 (sg ++ yr) a b
  have hzl : (sg ++ yr).length ≤ 100 := by have := hE.eq; rw [this] at hl; simp at hl ⊢; omega
  have hyl : yr.length ≤ 900 := by rw [List.length_append] at hzl; omega
  by_cases hr : -9223372036854775808 ≤ yv neg yr ∧ yv neg yr ≤ 9223372036854775807
  · have hy : ∀ W, Below w.heap.size w W → Calls Tryz.prog 52 #[.string (bs (sg ++ yr))] W fun x w' => x = .returned (.int .i64 (yv neg yr)) ∧ Below W.heap.size W w' :=
      fun W _ => year_ret hP (by omega) W (fun V => num_in (k := 4) (by decide) (by decide) h.four hyl h.ds hs hF hv hr.1 hr.2 V)
    by_cases h0 : e = 0
    · subst h0
      rw [if_pos rfl]
      exact par_7 hl w hE.k1 hE.z1 hE.p1 (n2_ok h.dc h.dd) h2.1 h2.2.1 h2.2.2 (n2_ok h.da h.db) hy he hL
    · rw [if_neg h0]
      exact par_6 hl w hE.k1 hE.z1 hE.p1 (n2_ok h.dc h.dd) h2.1 h2.2.1 h2.2.2 (n2_ok h.da h.db) hy he h0 hL
  · have h6 := chk_year (m := tv a b) (d := tv c d) hr
    obtain rfl : 6 = e := by rw [← he, h6]
    rw [if_neg (by decide)]
    have hy : ∀ W, Below w.heap.size w W → Calls Tryz.prog 52 #[.string (bs (sg ++ yr))] W fun x w' => x = pan 6 ∧ Below W.heap.size W w' :=
      fun W hb => year_pan hP (by omega) W (fun V hV => num_over (k := 4) (by decide) (by decide) h.four hyl h.ds hs hF (by rw [hv]; exact hr) V ((hL.below hb).below hV).tx)
    exact par_5 hl w hE.k1 hE.z1 hE.p1 (n2_ok h.dc h.dd) h2.1 h2.2.1 h2.2.2 (n2_ok h.da h.db) hy
theorem dPar_no {l : List UInt8} (h : ¬ ∃ neg yr a b c d, CvForm l neg yr a b c d) (hl : l.length ≤ 100) (w : World) :
    Calls Tryz.prog 28 #[.string (bs l)] w fun x w' => x = .returned (.tuple #[.agg #[.int .i64 0, .int .i64 0, .int .i64 0], .int .i64 5]) ∧ Below w.heap.size w w' := by
  by_cases h1 : ∃ p, l.drop (l.length - 3) = 45 :: p
  case neg => exact par_1 hl w rfl h1
  obtain ⟨p1, h1⟩ := h1
  have hp1 : p1.length ≤ 2 := by have := congrArg List.length h1; rw [List.length_drop, List.length_cons] at this; omega
  obtain ⟨z1, hz1⟩ : ∃ z, l.take (l.length - 3) = z := ⟨_, rfl⟩
  have hl1 : l = z1 ++ 45 :: p1 := by rw [← hz1, ← h1, List.take_append_drop]
  by_cases g1 : ∃ c d, p1 = [c, d] ∧ dig c ∧ dig d
  case neg => exact par_2 hl w rfl hz1 h1 (n2_bad hp1 g1)
  obtain ⟨c, d, rfl, hc, hd⟩ := g1
  by_cases h2 : ∃ p, z1.drop (z1.length - 3) = 45 :: p
  case neg => exact par_3 hl w rfl hz1 h1 (n2_ok hc hd) rfl h2
  obtain ⟨p2, h2⟩ := h2
  have hp2 : p2.length ≤ 2 := by have := congrArg List.length h2; rw [List.length_drop, List.length_cons] at this; omega
  obtain ⟨z2, hz2⟩ : ∃ z, z1.take (z1.length - 3) = z := ⟨_, rfl⟩
  have hl2 : z1 = z2 ++ 45 :: p2 := by rw [← hz2, ← h2, List.take_append_drop]
  by_cases g2 : ∃ a b, p2 = [a, b] ∧ dig a ∧ dig b
  case neg => exact par_4 hl w rfl hz1 h1 (n2_ok hc hd) rfl hz2 h2 (n2_bad hp2 g2)
  obtain ⟨a, b, rfl, ha, hb⟩ := g2
  have hz : z2.length ≤ 100 := by rw [hl1, hl2] at hl; simp at hl; omega
  obtain ⟨sg, dg, hP⟩ := parted_of z2
  have hs : sg = [] ∨ sg = [45] := by rcases hP.sg with e | ⟨e, _⟩; exact .inr e; exact .inl e
  have hdl : dg.length ≤ 900 := by have := hP.eq; rw [this, List.length_append] at hz; omega
  have hn : ∀ V, Calls Tryz.prog 51 #[.string (bs sg), .string (bs dg), .int .i64 4] V fun x w' => x = pan 5 ∧ Below V.heap.size V w' := by
    intro V
    by_cases q1 : dg.length < 4
    · exact num_short (k := 4) q1 V
    · by_cases q2 : ∀ x ∈ dg, dig x
      · by_cases q3 : Form (sg ++ stripZ 4 dg)
        · exfalso
          have q4 := (strz_form (k := 4) (by decide) (by omega) q2 hs).1 q3
          refine h ⟨decide (sg = [45]), dg, a, b, c, d, ?_, q2, by omega, q4.1, ?_, ha, hb, hc, hd⟩
          · rw [hl1, hl2, hP.eq]
            rcases hs with e | e <;> rw [e] <;> simp
          · rintro ⟨r1, r2⟩
            refine q4.2 ⟨by simpa using r1, ?_⟩
            rw [r2]; decide
        · exact num_form (k := 4) (by decide) (by decide) (by omega) hdl q2 hs q3 V
      · exact num_other (k := 4) (by omega) (by omega) q2 V
  exact par_5 hl w rfl hz1 h1 (n2_ok hc hd) rfl hz2 h2 (n2_ok ha hb) (fun W _ => year_pan hP (by omega) W (fun V _ => hn V))
theorem civCore : CivCore LaidCv where
  keep := fun hI hb => hI.below hb
  check := fun w hI _ _ _ _ _ _ hc => dChk hc w hI.mo
  day_in := fun w hI h hv => dDay_in h hv w hI.mo
  day_out := fun w hI _ _ _ _ _ _ hc h0 => dDay_out hc h0 w hI.mo
  of_in := fun w hI h hn => dOf_in h hn w hI.mo
  of_out := fun w hI h0 h1 hn hy => dOf_out h0 h1 hn hy w hI.mo
  wday := fun w _ h0 h1 hv => same_below (dWday h0 h1 hv w)
  ord_in := fun w hI h hv => dOrd_in h hv w hI.mo
  ord_out := fun w hI _ _ _ _ _ _ hc h0 => dOrd_out hc h0 w hI.mo
  from_in := fun w hI h hn => dFrom_in h hn w hI.mo
  from_year := fun w _ _ _ _ _ hy => dFrom_year hy w
  from_out := fun w hI _ _ _ _ hy hn => dFrom_out hy hn w hI.mo
  cmp := fun w _ _ _ _ _ _ _ _ _ _ _ _ _ hv => dCmp hv w
theorem civTxt : CivTxt LaidCv where
  text_in := fun w hI h => dText_in h w hI
  text_out := fun w hI _ _ _ _ _ _ hc h0 => dText_out hc h0 w hI
  parse_in := fun w hI h hl hc => by have := dPar_form h hl hc w hI; rw [if_pos rfl] at this; exact this
  parse_err := fun w hI h hl hc h0 => by have := dPar_form h hl hc w hI; rw [if_neg h0] at this; exact this
  parse_no := fun w _ h hl => dPar_no h hl w
theorem civFns : CivFns LaidCv := { civCore with lives := fun w hI => lives_of civCore civTxt w hI }
end Go.Proofs.YtoafigehcgledaaGreatDoor
