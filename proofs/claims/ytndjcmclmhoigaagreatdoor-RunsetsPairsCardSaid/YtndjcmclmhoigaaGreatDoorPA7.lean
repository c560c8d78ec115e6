/-
 DERIVED. A list of runs that grows by a list of runs (append with three dots). (For the reference's Without, and other walks of layer 10.)
 DERIVED. WHAT IS LEFT of runs without other ones: at most two runs of each; beyond the first and the last day. No program.
 DERIVED. CONTRACTS of the reference of layer 8 (ends): Check, Compare, Next, Prev, Text, Parse. Written by mkenref.py.
-/
import Derived.Test.YtndjcmclmhoigaaGreatDoorPA4
import Derived.Laws.AppendOwnNone
import Derived.Test.YtndjcmclmhoigaaGreatDoorPA3
import Derived.Test.YtndjcmclmhoigaaGreatDoorPA1
import Derived.Test.YtndjcmclmhoigaaGreatDoorPA2
import Derived.BigQuiet
import Derived.WalkSmall
import Derived.Deep.Cut
namespace Go.Proofs.YtndjcmclmhoigaaGreatDoor
open Go.RowKit
set_option maxRecDepth 100000

variable {w W W' u : World} {a b : Option Addr} {l m : List Rn} {v v' : Value}
theorem vL_one : ∀ (l : List Rn), ∀ x ∈ vL l, x.oneCell' = true
 | [], x, h => by cases h
 | r :: t, x, h => by
  unfold vL at h
  rcases List.mem_append.1 h with h | h
  ·unfold cellsR at h
   simp at h
   rcases h with rfl | rfl | rfl | rfl <;> rfl
  ·exact vL_one t x h
theorem lr_news {g o : Nat} (h : Lr w (some ⟨g, o, none⟩) l W) : ∀ j x, (vL l)[j]? = some x → W.cell? ((⟨g, o, none⟩ : Addr).add j) = some x := by
 intro j x hx
 have hj := (List.getElem?_eq_some_iff.1 hx).1
 rw [vL_len] at hj
 have hd : j = j / 4 * 4 + j % 4 := by omega
 have hp : j / 4 < l.length := by omega
 have h4 : j % 4 < 4 := Nat.mod_lt _ (by decide)
 have hr := List.getElem?_eq_getElem hp
 obtain ⟨k0, k1, k2, k3⟩ := h.cells hr
 have hv := vL_at hr h4
 rw [← hd, hx] at hv
 have e : (⟨g, o, none⟩ : Addr).add j = ⟨g, o + j / 4 * 4 + j % 4, none⟩ := by
  rw [show o + j / 4 * 4 + j % 4 = o + j by omega]
  unfold Addr.add
  by_cases h0 : j = 0
  ·rw [if_pos h0, h0]; rfl
  ·rw [if_neg h0]
 rw [e]
 unfold cellsR at hv
 rcases (show j % 4 = 0 ∨ j % 4 = 1 ∨ j % 4 = 2 ∨ j % 4 = 3 by omega) with q | q | q | q <;> rw [q] at hv ⊢ <;> simp at hv <;> subst hv
 ·exact k0
 ·exact k1
 ·exact k2
 ·exact k3
theorem Ag.adds (h : Ag u l v W) (ho : W'.ownsRow u.heap.size 26 4 v' (l.length + m.length) (vL l ++ vL m)) (hg : W.grownBy W' v.ownBlock) : Ag u (l ++ m) v' W' :=
 ⟨h.below.grown hg h.below.size (fun k hk => (h.own.lt k hk).1), by rw [vL_add, List.length_append]; exact ho⟩
/-- append(l, m...), in whatever surroundings -/
theorem wp_append_ls {o : Oper} {act : Act} {K : Act → World → Prop} {Q : Exit → Act → World → Prop} (s x : Operand)
 (ho : o.op = .call { callee := .builtin .append, args := #[s, x], argTypes := #[60, 60] }) {p : Nat}
 (hG : Ag u l v W) (hM : Lr w b m W) (hn : b = none → m = [] ∧ p = 0) (hs : act.eval s = v) (hx : act.eval x = .slice b m.length p) (hl : l.length + m.length ≤ 1000000000)
 (h : ∀ v' W', Ag u (l ++ m) v' W' → K (act.put o.dst v') W') : o.wp Tryz.prog act W K Q := by
 obtain ⟨i0, hi0, hz0, hz1, hz2⟩ := infoRn4
 cases b with
 | none =>
  obtain ⟨rfl, rfl⟩ := hn rfl
  have hrun := run_append_owned_none (P := Tryz.prog) (w := W) u.heap.size 60 o.type 26 i0 4 Tryz.underlying60 hi0 v l.length (vL l) hG.own
  unfold Oper.wp
  simp [execOp, ho, resolve, invoke, builtin, hs, hx, hrun, Result.andThen]
  exact h v W (by rw [List.append_nil]; exact hG)
 | some ad =>
  by_cases hm : m = []
  ·subst hm
   refine wp_append_own _ s x _ ho u.heap.size 26 i0 (.agg #[.int .i8 0, .int .i64 0, .int .i8 0, .int .i64 0]) 4 32 Tryz.underlying60 hi0 hz0 hz1 hz2 rfl (by decide) v l.length (vL l) hs hG.own ad 0 p [] hx rfl (by simp) (by simp) (by unfold maxLen; simp at hl; omega) (by simp at hl; omega) hG.below.size (fun v' W' h2 h3 _ => ?_)
   exact h v' W' (hG.adds h2 h3)
  ·obtain ⟨r, t, rfl⟩ := List.exists_cons_of_ne_nil hm
   obtain ⟨g, o', e, hg, _⟩ := hM.at4 0 r rfl
   injection e with e
   subst e
   refine wp_append_own _ s x _ ho u.heap.size 26 i0 (.agg #[.int .i8 0, .int .i64 0, .int .i8 0, .int .i64 0]) 4 32 Tryz.underlying60 hi0 hz0 hz1 hz2 rfl (by decide) v l.length (vL l) hs hG.own ⟨g, o', none⟩ (r :: t).length p (vL (r :: t)) hx (vL_len _) (lr_news hM) (vL_one _) (by unfold maxLen; omega) (by omega) hG.below.size (fun v' W' h2 h3 _ => ?_)
   exact h v' W' (hG.adds h2 h3)
theorem wpList_append_ls {ops : Array Oper} {rest : List Oper} {o : Oper} {act : Act} {Q : Exit → Act → World → Prop} (hgd : o.guard = none) (s x : Operand)
 (ho : o.op = .call { callee := .builtin .append, args := #[s, x], argTypes := #[60, 60] }) {p : Nat}
 (hG : Ag u l v W) (hM : Lr w b m W) (hn : b = none → m = [] ∧ p = 0) (hs : act.eval s = v) (hx : act.eval x = .slice b m.length p) (hl : l.length + m.length ≤ 1000000000)
 (h : ∀ v' W', Ag u (l ++ m) v' W' → wpList Tryz.prog ops Q rest (act.put o.dst v') W') : wpList Tryz.prog ops Q (o :: rest) act W :=
 wpList_plain hgd fun _ hK => wp_append_ls s x ho hG hM hn hs hx hl fun v' W' h2 => hK _ _ (h v' W' h2)
/-- a list of runs, as it is returned -/
def LsR (w : World) (m : List Rn) (x : Ending) (w' : World) : Prop := (∃ b p, x = .returned (.slice b m.length p) ∧ (b = none → m = [] ∧ p = 0) ∧ Lr w b m w') ∧ Below w.heap.size w w'
theorem lr_one {w W : World} (r : Rn) (hb : Below w.heap.size w W) : Lr w (some ⟨W.heap.size, 0, none⟩) [r] (W.alloc (.cells #[.int .i8 r.f, .int .i64 r.d, .int .i8 r.g, .int .i64 r.e] 26)) := by
 have h := rg_new r 26 hb
 refine ⟨h.below, fun p q hp => ?_⟩
 cases p with
 | succ n => simp at hp
 | zero =>
  simp at hp
  subst hp
  exact ⟨_, _, rfl, h.size, h.c0, h.c1, h.c2, h.c3⟩
theorem ls_of {m : List Rn} (h : Ag u m v W) (hw : Below w.heap.size w u) : LsR w m (.returned v) W := by
 obtain ⟨a, c, hv, h1, _⟩ := h.row hw
 refine ⟨⟨a, c, by rw [hv], fun e => ?_, h1⟩, h1.below⟩
 obtain ⟨_, ⟨e2, hn⟩ | ⟨g, cap, cur, e2, _⟩⟩ := h.own
 ·rw [hv] at e2
  injection e2 with _ _ e3
  exact ⟨List.length_eq_zero_iff.1 (by omega), e3⟩
 ·rw [hv, e] at e2
  injection e2 with e3
  cases e3
/-- as LsR, and the slice has room for its elements -/
def LsRc (w : World) (m : List Rn) (x : Ending) (w' : World) : Prop := LsR w m x w' ∧ ∃ b p, x = .returned (.slice b m.length p) ∧ m.length ≤ p
theorem ls_ofc {m : List Rn} (h : Ag u m v W) (hw : Below w.heap.size w u) : LsRc w m (.returned v) W := by
 refine ⟨ls_of h hw, ?_⟩
 obtain ⟨a, c, hv, _, _⟩ := h.row hw
 refine ⟨a, c, by rw [hv], ?_⟩
 obtain ⟨_, ⟨e2, hn⟩ | ⟨g, cap, cur, e2, _, _, hc, _⟩⟩ := h.own
 ·omega
 ·rw [hv] at e2
  injection e2 with _ _ e3
  rw [e3]
  exact hc
end Go.Proofs.YtndjcmclmhoigaaGreatDoor
namespace Go.Proofs.YtndjcmclmhoigaaGreatDoor

theorem rsc_one {r : Rn} (h : r.Ok) : RsCan [r] := rsc_cons.2 ⟨h, (fun _ hb => by cases hb), rsc_nil⟩
theorem memR_one {r : Rn} {x : Int} : memR [r] x ↔ r.has x := memR_cons.trans ⟨fun h => h.elim id (fun h => absurd h (memR_nil x)), .inl⟩
/-- the places that runs leave of others -/
def leftM (m : List Rn) (x : Int) : Prop := ¬ memR m x ∧ (x < -9223372036854775808 → ¬ memR m (-9223372036854775808)) ∧ (9223372036854775807 < x → ¬ memR m 9223372036854775807)
theorem leftM_nil (x : Int) : leftM [] x := ⟨memR_nil x, fun _ => memR_nil _, fun _ => memR_nil _⟩
theorem left_day {m : List Rn} {x : Int} (h0 : -9223372036854775808 ≤ x) (h1 : x ≤ 9223372036854775807) : leftM m x ↔ ¬ memR m x :=
 ⟨fun h => h.1, fun h => ⟨h, fun q => by omega, fun q => by omega⟩⟩
end Go.Proofs.YtndjcmclmhoigaaGreatDoor
namespace Go.Proofs.YtndjcmclmhoigaaGreatDoor
open Go.RowKit
set_option maxRecDepth 100000

end Go.Proofs.YtndjcmclmhoigaaGreatDoor
