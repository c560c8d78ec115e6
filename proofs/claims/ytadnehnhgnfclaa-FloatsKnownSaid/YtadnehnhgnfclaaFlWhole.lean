/-
  DERIVED. CONTRACTS of math.Floor, math.Ceil; floats.whole, Floor, Ceil.
-/
import Derived.Test.YtadnehnhgnfclaaFl
import Derived.Test.YtadnehnhgnfclaaFlVal
namespace Go.Proofs.Ytadnehnhgnfclaa
open Go.RowKit

def quietB (b : Nat) : Bool := match FloatKind.f64.decode b with | .nan _ t => FloatKind.f64.format.quiet t == t | _ => true
def roundB (way : Ieee.Toward) (b : Nat) : Nat := match FloatKind.f64.decode b with | .nan _ _ => b | d => FloatKind.f64.encode (d.integral way)
theorem toIntegral_quiet (name : String) (way : Ieee.Toward) (b : Nat) (w : World) (h : quietB b = true) :
    (Extern.MathFloor.toIntegral name way #[.float .f64 b]).run Try.prog w = .ok (.float .f64 (roundB way b)) w := by
  unfold Extern.MathFloor.toIntegral roundB
  unfold quietB at h
  show Sem.run _ (match FloatKind.f64.decode b with | .nan s t => _ | d => _) w = _
  generalize FloatKind.f64.decode b = d at *
  cases d with
  | nan s t =>
    have h' : FloatKind.f64.format.quiet t = t := by simpa using h
    show Sem.run _ (if FloatKind.f64.format.quiet t = t then _ else _) w = _
    rw [if_pos h']
    rfl
  | number s m e => rfl
  | infinity s => rfl
theorem run_floor (b : Nat) (w : World) (h : quietB b = true) : (callFunc 49 #[.float .f64 b]).run Try.prog w = .ok (.value (.float .f64 (roundB .down b))) w := by
  rw [run_callFunc_extern (e := Extern.MathFloor.toIntegral "math.archFloor" .down) Try.func49 (by kernel_rfl) (by kernel_rfl) (by kernel_rfl) (by kernel_rfl), toIntegral_quiet _ _ _ _ h]
  rfl
theorem run_ceil (b : Nat) (w : World) (h : quietB b = true) : (callFunc 51 #[.float .f64 b]).run Try.prog w = .ok (.value (.float .f64 (roundB .up b))) w := by
  rw [run_callFunc_extern (e := Extern.MathFloor.toIntegral "math.archCeil" .up) Try.func51 (by kernel_rfl) (by kernel_rfl) (by kernel_rfl) (by kernel_rfl), toIntegral_quiet _ _ _ _ h]
  rfl
theorem floor_is {b r : Nat} (w : World) (h : quietB b = true) (hr : roundB .down b = r) :
    Calls Try.prog 42 #[.float .f64 b] w fun e w' => e = .returned (.float .f64 r) ∧ w = w' := by
  have hF := fun w => hr ▸ run_floor b w h
  clear hr
  go_enter Try.func42, Try.ntmps42
  go_wp2
  go_ret
  exact ⟨rfl, rfl⟩
theorem ceil_is {b r : Nat} (w : World) (h : quietB b = true) (hr : roundB .up b = r) :
    Calls Try.prog 43 #[.float .f64 b] w fun e w' => e = .returned (.float .f64 r) ∧ w = w' := by
  have hF := fun w => hr ▸ run_ceil b w h
  clear hr
  go_enter Try.func43, Try.ntmps43
  go_wp2
  go_ret
  exact ⟨rfl, rfl⟩
/-- a function of one float without captured variables, which gives r -/
def OneFloat (f : FuncId) (b r : Nat) : Prop := ∀ w, Calls Try.prog f #[.float .f64 b] w fun e w' => e = .returned (.float .f64 r) ∧ w = w'
def IsRound (f : FuncId) : Prop := f = 42 ∨ f = 43
theorem whole_nan {f b r : Nat} (hf : IsRound f) (w : World) (h : OneFloat f b r) (hN : (FloatKind.f64.format.order r r != some Ordering.eq) = true) :
    Calls Try.prog 41 #[.float .f64 b, .func (.func f) #[] #[]] w fun e w' => e = .returned (.tuple #[.int .i64 0, .int .i64 1]) ∧ w = w' := by
  have H := Lib.hid h; clear h
  rcases hf with rfl | rfl
  all_goals
    go_enter Try.func41, Try.ntmps41
    go_wp2_with fail
    refine (H.out _).mono ?_
    rintro e w' ⟨rfl, rfl⟩
    go_wp2
    go_ret2
    exact ⟨rfl, rfl⟩
theorem whole_out {f b r : Nat} (hf : IsRound f) (w : World) (h : OneFloat f b r) (hN : (FloatKind.f64.format.order r r != some Ordering.eq) = false)
    (hL : (FloatKind.f64.format.order r 14114281232179134464 == some Ordering.lt) = true ∨ (FloatKind.f64.format.order r 14114281232179134464 == some Ordering.lt) = false ∧ (FloatKind.f64.format.order r 4890909195324358656 == some Ordering.gt || FloatKind.f64.format.order r 4890909195324358656 == some Ordering.eq) = true) :
    Calls Try.prog 41 #[.float .f64 b, .func (.func f) #[] #[]] w fun e w' => e = .returned (.tuple #[.int .i64 0, .int .i64 15]) ∧ w = w' := by
  have H := Lib.hid h; clear h
  rcases hf with rfl | rfl <;> rcases hL with h1 | ⟨h1, h2⟩
  all_goals
    go_enter Try.func41, Try.ntmps41
    go_wp2_with fail
    refine (H.out _).mono ?_
    rintro e w' ⟨rfl, rfl⟩
    go_wp2
    go_ret2
    exact ⟨rfl, rfl⟩
theorem whole_in {f b r : Nat} {n : Int} (hf : IsRound f) (w : World) (h : OneFloat f b r) (hN : (FloatKind.f64.format.order r r != some Ordering.eq) = false)
    (h1 : (FloatKind.f64.format.order r 14114281232179134464 == some Ordering.lt) = false) (h2 : (FloatKind.f64.format.order r 4890909195324358656 == some Ordering.gt || FloatKind.f64.format.order r 4890909195324358656 == some Ordering.eq) = false)
    (hc : floatToIntVal .f64 r .i64 = some n) :
    Calls Try.prog 41 #[.float .f64 b, .func (.func f) #[] #[]] w fun e w' => e = .returned (.tuple #[.int .i64 n, .int .i64 0]) ∧ w = w' := by
  have H := Lib.hid h; clear h
  have hconv : ∀ w, (convert 22 2 (.float .f64 r)).run Try.prog w = .ok (.int .i64 n) w := fun w =>
    run_convert_float_int w 22 2 .f64 .i64 r n (by rw [Try.underlying22]; rfl) Try.underlying2 hc
  clear hc
  rcases hf with rfl | rfl
  all_goals
    go_enter Try.func41, Try.ntmps41
    go_wp2_with fail
    refine (H.out _).mono ?_
    rintro e w' ⟨rfl, rfl⟩
    go_wp2
    go_ret2
    exact ⟨rfl, rfl⟩

/-- what whole answers of a number -/
def wholR (way : Ieee.Toward) (b : Nat) : Int × Int :=
  if isNan b then (0, 1) else if rung b = 9218868437227405312 then (0, 15)
  else if -9223372036854775808 ≤ sg (isNeg b) (whol way b) ∧ sg (isNeg b) (whol way b) ≤ 9223372036854775807 then (sg (isNeg b) (whol way b), 0) else (0, 15)
theorem whole_is {f b : Nat} {n c : Int} (hf : IsRound f) (way : Ieee.Toward) (hw : way ≠ .even) (w : World) (hb : b < 18446744073709551616) (h : OneFloat f b (roundB way b)) (hr : wholR way b = (n, c)) :
    Calls Try.prog 41 #[.float .f64 b, .func (.func f) #[] #[]] w fun e w' => e = .returned (.tuple #[.int .i64 n, .int .i64 c]) ∧ w = w' := by
  unfold wholR at hr
  cases hn : isNan b
  · rw [hn] at hr
    by_cases hi : rung b = 9218868437227405312
    · have hd : roundB way b = b := by
        unfold roundB
        show (match Ieee.double.read b with | .nan _ _ => b | d => FloatKind.f64.encode (d.integral way)) = b
        rw [read_inf hi]
        show Ieee.double.word _ Ieee.double.infRung = b
        rw [word_dw, show Ieee.double.infRung = rung b by rw [hi]; decide]
        unfold dw; exact (split_bits hb).symm
      rw [hd] at h
      rw [hi] at hr
      simp only [Bool.false_eq_true, if_false, if_true, Prod.mk.injEq] at hr
      obtain ⟨rfl, rfl⟩ := hr
      have hk : key b = if isNeg b then -9218868437227405312 else 9218868437227405312 := by unfold key; rw [hi]; rfl
      refine whole_out hf w h (by rw [ord_ne, fEq_self, hn]; rfl) ?_
      have hsplit := split_bits hb
      rw [hi] at hsplit
      cases hs : isNeg b
      · rw [hs] at hsplit; simp at hsplit; subst hsplit
        exact .inr ⟨by rw [ord_lt]; decide, by rw [ord_gt, ord_eq]; decide⟩
      · rw [hs] at hsplit; simp at hsplit; subst hsplit
        exact .inl (by rw [ord_lt]; decide)
    · rw [if_neg (by simp), if_neg hi] at hr
      obtain ⟨g, h1, h2, h3⟩ := round_fin way hw hn hi
      have hd : roundB way b = dw (isNeg b) g := by
        rw [← h3]
        unfold roundB
        show (match Ieee.double.read b with | .nan _ _ => b | d => FloatKind.f64.encode (d.integral way)) = _
        rw [read_num hn hi]; rfl
      rw [hd] at h
      have hN : (FloatKind.f64.format.order (dw (isNeg b) g) (dw (isNeg b) g) != some Ordering.eq) = false := by rw [ord_ne, fEq_self, nan_dw h1]; rfl
      have hL := lt_lo (s := isNeg b) h1 h2
      have hH := lt_hi (s := isNeg b) h1 h2
      split at hr
      · rename_i hin
        obtain ⟨i1, i2⟩ := hin
        simp only [Prod.mk.injEq] at hr
        obtain ⟨rfl, rfl⟩ := hr
        refine whole_in hf w h hN (by rw [ord_lt, hL]; simp; omega) (by rw [fGe _ _ (nan_dw h1) (by decide), hH]; simp; omega) ?_
        unfold floatToIntVal
        show (match (Ieee.double.read _).toInt .zero with | some n => _ | none => none) = _
        rw [toInt_dw h1 h2]
        show (if IntKind.i64.min ≤ _ ∧ _ ≤ IntKind.i64.max then _ else _) = _
        rw [if_pos ⟨i1, i2⟩]
      · rename_i hin
        simp only [Prod.mk.injEq] at hr
        obtain ⟨rfl, rfl⟩ := hr
        refine whole_out hf w h hN ?_
        rw [ord_lt, hL, fGe _ _ (nan_dw h1) (by decide), hH]
        by_cases hlo : sg (isNeg b) (whol way b) < -9223372036854775808
        · exact .inl (by simpa using hlo)
        · exact .inr ⟨by simpa using hlo, by simp; omega⟩
  · rw [hn] at hr
    simp only [if_true, Prod.mk.injEq] at hr
    obtain ⟨rfl, rfl⟩ := hr
    have hd : roundB way b = b := by
      unfold roundB
      show (match Ieee.double.read b with | .nan _ _ => b | d => FloatKind.f64.encode (d.integral way)) = b
      rw [read_nan hn]
    rw [hd] at h
    exact whole_nan hf w h (by rw [ord_ne, fEq_self, hn]; rfl)
end Go.Proofs.Ytadnehnhgnfclaa
