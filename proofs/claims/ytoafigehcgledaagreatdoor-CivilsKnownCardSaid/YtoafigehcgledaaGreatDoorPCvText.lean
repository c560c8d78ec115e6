/-
  DERIVED. CONTRACTS of package civils: signed, padded, Text.
-/
import Derived.Test.YtoafigehcgledaaGreatDoorPCvCmp
import Derived.Test.YtoafigehcgledaaGreatDoorPCo
import Derived.Test.YtoafigehcgledaaGreatDoorPI1Txt
import Derived.Lib.Join
namespace Go.Proofs.YtoafigehcgledaaGreatDoor
open Go.RowKit
set_option maxRecDepth 100000

/-- what the listed variables read as: the tables of months and years, and of the library's numbers -/
structure LaidCv (w : World) : Prop where
  mo : LaidMo w
  tx : I1.Laid w
theorem LaidCv.below {w w' : World} (h : LaidCv w) (hb : Below w.heap.size w w') : LaidCv w' := ⟨h.mo.below hb, h.tx.below hb⟩
theorem bs_toList (l : List UInt8) : (bs l).data.toList = l := by unfold bs; simp
theorem dTrimP {l d : List UInt8} (h : Lib.trimPrefix l [45] = d) (w : World) :
    Calls Tryz.prog 89 #[.string (bs l), .string ⟨#[45]⟩] w fun e w' => e = .returned (.string (bs d)) ∧ w = w' :=
  I1.trimPrefix_is (s := bs l) (by rw [bs_toList]; exact h) w
/-- a text parted into its minus sign and what is behind it -/
structure Parted (l sg dg : List UInt8) : Prop where
  eq : l = sg ++ dg
  sg : sg = [45] ∨ sg = [] ∧ ¬ dg.getD 0 0 = 45
theorem Parted.trim {l sg dg : List UInt8} (h : Parted l sg dg) : Lib.trimPrefix l [45] = dg := by
  rw [h.eq]
  rcases h.sg with e | ⟨e, g⟩
  · rw [e]; exact trimPrefix_minus dg
  · rw [e, List.nil_append]
    match dg, g with
    | [], _ => rfl
    | c :: r, g => exact trimPrefix_other c r (fun e => g (by simpa using UInt8.toNat_inj.1 (by simpa using e)))
theorem parted_of (l : List UInt8) : ∃ sg dg, Parted l sg dg := by
  match l with
  | [] => exact ⟨[], [], rfl, .inr ⟨rfl, by decide⟩⟩
  | c :: r =>
    by_cases h : c = 45
    · exact ⟨[45], r, by rw [h]; rfl, .inl rfl⟩
    · exact ⟨[], c :: r, rfl, .inr ⟨rfl, by simpa using h⟩⟩
set_option maxHeartbeats 1000000 in
theorem signed_is {l sg dg : List UInt8} (h : Parted l sg dg) (hl : l.length ≤ 1000) (w : World) :
    Calls Tryz.prog 72 #[.string (bs l)] w fun e w' => e = .returned (.tuple #[.string (bs sg), .string (bs dg)]) ∧ w = w' := by
  have r1 := Kp.mk (fun w => dTrimP h.trim w)
  have e1 : l.length = sg.length + dg.length := by rw [h.eq, List.length_append]
  have w1 : IntKind.i64.wrap (((bs l).size : Int) - ((bs dg).size : Int)) = ((sg.length : Nat) : Int) := by rw [bs_size, bs_size]; rw [show (l.length : Int) - (dg.length : Int) = ((sg.length : Nat) : Int) by omega]; exact IntWalk.i64_in _ (by omega)
  have s1 := fun w => to_bs (l := l) (i := sg.length) (by omega) w
  have e2 : l.take sg.length = sg := by rw [h.eq]; simp
  rw [e2] at s1
  clear h hl e1 e2
  go_enter Tryz.func72, Tryz.ntmps72
  go_wp2_with fail
  refine (r1.out _).mono ?_
  rintro e w' ⟨rfl, rfl⟩
  go_wp2_with fail
  go_ret2
  exact ⟨rfl, rfl⟩
theorem repeat_zero (c : Nat) : Lib.repeatL [48] c = List.replicate c 48 := by
  induction c with
  | zero => rfl
  | succ c ih => rw [Lib.repeatL, ih, List.replicate_succ]; rfl
theorem dRep {c : Nat} (hc : c ≤ 100) (w : World) :
    Calls Tryz.prog 74 #[.string ⟨#[48]⟩, .int .i64 (c : Int)] w fun e w' => e = .returned (.string (bs (List.replicate c 48))) ∧ Below w.heap.size w w' := by
  have h := Tryz.strings_Repeat ⟨#[48]⟩ c w (by omega) (by show 1 * c ≤ _; omega)
  rw [show (⟨#[48]⟩ : ByteArray).data.toList = [48] from rfl, repeat_zero] at h
  exact h
theorem dText {n : Int} (h0 : -9223372036854775808 ≤ n) (h1 : n ≤ 9223372036854775807) (w : World) (hL : I1.Laid w) :
    Calls Tryz.prog 73 #[.int .i64 n] w fun e w' => e = .returned (.string (bs (Lib.itoa n))) ∧ Below w.heap.size w w' := I1.text_any n w hL h0 h1
theorem dec_head (n : Nat) : ¬ (Lib.decDigits n).getD 0 0 = 45 := by
  have hp := pad_form n
  intro h
  match hd : Lib.decDigits n with
  | [] => rw [hd] at h; revert h; decide
  | c :: r =>
    have : dig c := hp.ds c (by unfold padY; rw [hd]; simp)
    rw [hd] at h
    have h2 : c = 45 := by simpa using h
    subst h2
    revert this; unfold dig; decide
theorem itoa_parted (n : Int) : Parted (Lib.itoa n) (if n < 0 then [45] else []) (Lib.decDigits n.natAbs) := by
  unfold Lib.itoa
  by_cases h : n < 0
  · rw [if_pos h, if_pos h]; exact ⟨rfl, .inl rfl⟩
  · rw [if_neg h, if_neg h, show n.toNat = n.natAbs by omega]; exact ⟨rfl, .inr ⟨rfl, dec_head _⟩⟩
set_option maxHeartbeats 1000000 in
theorem padded_is {n : Int} {k : Nat} {sg dg : List UInt8} (h0 : -9223372036854775808 ≤ n) (h1 : n ≤ 9223372036854775807) (hk : k ≤ 4) (hp : Parted (Lib.itoa n) sg dg) (w : World) (hL : LaidCv w) :
    Calls Tryz.prog 47 #[.int .i64 n, .int .i64 (k : Int)] w fun e w' => e = .returned (.string (bs (sg ++ List.replicate (k - dg.length) 48 ++ dg))) ∧ Below w.heap.size w w' := by
  have hd := (dec_pad 18 n.natAbs (by omega)).2
  have hi : (Lib.itoa n).length ≤ 20 := by
    have := (itoa_parted n).eq
    rw [this, List.length_append]
    split <;> simp <;> omega
  have he : (Lib.itoa n).length = sg.length + dg.length := by rw [hp.eq, List.length_append]
  have r1 := Kp.mk (fun W (hb : Below w.heap.size w W) => dText h0 h1 W (hL.below hb).tx)
  have r2 := Kp.mk (fun W => signed_is hp (by omega) W)
  have r3 := Kp.mk (fun W => dRep (c := k - dg.length) (by omega) W)
  have HB := Kp.mk (Below.refl w.heap.size w)
  have a1 := fun W => add_bs (a := sg) (b := List.replicate (k - dg.length) 48) (by rw [List.length_replicate]; omega) W
  have a2 := fun W => add_bs (a := sg ++ List.replicate (k - dg.length) 48) (b := dg) (by rw [List.length_append, List.length_replicate]; omega) W
  obtain ⟨m, hm⟩ : ∃ m, k - dg.length = m := ⟨_, rfl⟩
  rw [hm] at r3 a1 a2 ⊢
  generalize List.replicate m (48 : UInt8) = rp at *
  have w1 : IntKind.i64.wrap ((k : Int) - ((bs dg).size : Int)) = (k : Int) - ((bs dg).size : Int) := IntWalk.i64_in _ (by rw [bs_size]; omega)
  have w2 : max (0 : Int) ((k : Int) - ((bs dg).size : Int)) = (m : Int) := by rw [bs_size]; omega
  clear hd hi he hp h0 h1 hL hm
  go_enter Tryz.func47, Tryz.ntmps47
  go_wp2_with fail
  refine (r1.out _ HB.out).mono ?_
  rintro e w1 ⟨rfl, hbl⟩
  have HB := Kp.mk (HB.out.trans (hbl.mono HB.out.size))
  clear hbl
  go_wp2_with fail
  refine (r2.out _).mono ?_
  rintro e w' ⟨rfl, rfl⟩
  go_wp2_with fail
  refine (r3.out _).mono ?_
  rintro e w2 ⟨rfl, hbl⟩
  have HB := Kp.mk (HB.out.trans (hbl.mono HB.out.size))
  clear hbl
  go_wp2_with fail
  go_ret
  exact ⟨by rw [List.append_assoc]; rfl, HB.out⟩
theorem pad4_is {y : Int} (h0 : -9223372036854775808 ≤ y) (h1 : y ≤ 9223372036854775807) (w : World) (hL : LaidCv w) :
    Calls Tryz.prog 47 #[.int .i64 y, .int .i64 4] w fun e w' => e = .returned (.string (bs ((if y < 0 then [45] else []) ++ padY y.natAbs))) ∧ Below w.heap.size w w' := by
  have := padded_is (k := 4) h0 h1 (by omega) (itoa_parted y) w hL
  rw [List.append_assoc] at this
  exact this
theorem pad2_is {n : Int} (h0 : 0 ≤ n) (h1 : n ≤ 99) (w : World) (hL : LaidCv w) :
    Calls Tryz.prog 47 #[.int .i64 n, .int .i64 2] w fun e w' => e = .returned (.string (bs (fx 2 n.toNat))) ∧ Below w.heap.size w w' := by
  have := padded_is (k := 2) (by omega) (by omega) (by omega) (itoa_parted n) w hL
  rw [if_neg (by omega), List.nil_append, show n.natAbs = n.toNat by omega, (dec_pad 1 n.toNat (by omega)).1] at this
  exact this
theorem join3 {a b c : List UInt8} (h : a.length + b.length + c.length ≤ 1000) (g : Nat) (w : World) (hg : g < w.heap.size) (c0 : w.cell? ⟨g, 0, none⟩ = some (.string (bs a))) (c1 : w.cell? ⟨g, 1, none⟩ = some (.string (bs b))) (c2 : w.cell? ⟨g, 2, none⟩ = some (.string (bs c))) :
    Calls Tryz.prog 48 #[.slice (some ⟨g, 0, none⟩) 3 3, .string ⟨#[45]⟩] w fun e w' => e = .returned (.string (bs (a ++ [45] ++ b ++ [45] ++ c))) ∧ Below w.heap.size w w' := by
  have hj : Lib.join ([bs a, bs b, bs c].map (·.data.toList)) (⟨#[45]⟩ : ByteArray).data.toList = a ++ [45] ++ b ++ [45] ++ c := by
    simp [Lib.join, List.intercalate, bs_toList]
  have := Tryz.strings_Join g 0 3 [bs a, bs b, bs c] ⟨#[45]⟩ w (by
    intro j x hx
    match j, hx with
    | 0, hx => obtain rfl := Option.some.inj hx; simpa using c0
    | 1, hx => obtain rfl := Option.some.inj hx; simpa using c1
    | 2, hx => obtain rfl := Option.some.inj hx; simpa using c2) hg (by simp) (by simp) (by rw [hj]; simp; omega)
  rw [hj] at this
  exact this
theorem str3 (w0 : World) (a b c : List UInt8) : Below w0.heap.size w0 (w0.alloc (.cells #[.string (bs a), .string (bs b), .string (bs c)] 9)).drew ∧ w0.heap.size < (w0.alloc (.cells #[.string (bs a), .string (bs b), .string (bs c)] 9)).drew.heap.size ∧
    (w0.alloc (.cells #[.string (bs a), .string (bs b), .string (bs c)] 9)).drew.cell? ⟨w0.heap.size, 0, none⟩ = some (.string (bs a)) ∧ (w0.alloc (.cells #[.string (bs a), .string (bs b), .string (bs c)] 9)).drew.cell? ⟨w0.heap.size, 1, none⟩ = some (.string (bs b)) ∧ (w0.alloc (.cells #[.string (bs a), .string (bs b), .string (bs c)] 9)).drew.cell? ⟨w0.heap.size, 2, none⟩ = some (.string (bs c)) := by
  refine ⟨((Below.refl w0.heap.size w0).alloc (Nat.le_refl _) (.cells #[.string (bs a), .string (bs b), .string (bs c)] 9)).trans ((Below.refl (w0.alloc (.cells #[.string (bs a), .string (bs b), .string (bs c)] 9)).heap.size _).drew.mono (by simp)), by show w0.heap.size < (w0.alloc (.cells #[.string (bs a), .string (bs b), .string (bs c)] 9)).heap.size; simp, ?_, ?_, ?_⟩
  · show (w0.alloc (.cells #[.string (bs a), .string (bs b), .string (bs c)] 9)).cell? _ = _; rw [World.cell?_alloc_new]; rfl
  · show (w0.alloc (.cells #[.string (bs a), .string (bs b), .string (bs c)] 9)).cell? _ = _; rw [World.cell?_alloc_new]; rfl
  · show (w0.alloc (.cells #[.string (bs a), .string (bs b), .string (bs c)] 9)).cell? _ = _; rw [World.cell?_alloc_new]; rfl
theorem str3' (w0 : World) (a b c : List UInt8) : Below w0.heap.size w0 (w0.alloc (.cells #[.string (bs a), .string (bs b), .string (bs c)] 9)) ∧ w0.heap.size < (w0.alloc (.cells #[.string (bs a), .string (bs b), .string (bs c)] 9)).heap.size ∧
    (w0.alloc (.cells #[.string (bs a), .string (bs b), .string (bs c)] 9)).cell? ⟨w0.heap.size, 0, none⟩ = some (.string (bs a)) ∧ (w0.alloc (.cells #[.string (bs a), .string (bs b), .string (bs c)] 9)).cell? ⟨w0.heap.size, 1, none⟩ = some (.string (bs b)) ∧ (w0.alloc (.cells #[.string (bs a), .string (bs b), .string (bs c)] 9)).cell? ⟨w0.heap.size, 2, none⟩ = some (.string (bs c)) :=
  ⟨(Below.refl w0.heap.size w0).alloc (Nat.le_refl _) (.cells #[.string (bs a), .string (bs b), .string (bs c)] 9), (str3 w0 a b c).2.1, (str3 w0 a b c).2.2.1, (str3 w0 a b c).2.2.2.1, (str3 w0 a b c).2.2.2.2⟩
set_option maxHeartbeats 4000000 in
theorem dText_in {y m d : Int} (h : Right y m d) (w : World) (hL : LaidCv w) :
    Calls Tryz.prog 27 #[.agg #[.int .i64 y, .int .i64 m, .int .i64 d]] w fun e w' => e = .returned (.tuple #[.string (bs (textC y m d)), .int .i64 0]) ∧ Below w.heap.size w w' := by
  have hk := (chkC_iff y m d).2 h
  have hi := h.i64
  have HA := Kp.mk (cv_new y m d 23 (Below.refl w.heap.size w))
  have r1 := Kp.mk (fun W (hb : Below w.heap.size w W) => dChk hk W (hL.mo.below hb))
  have r2 := Kp.mk (fun W (hb : Below w.heap.size w W) => pad4_is (y := y) (by omega) (by omega) W (hL.below hb))
  have r3 := Kp.mk (fun W (hb : Below w.heap.size w W) => pad2_is (n := m) (by omega) (by omega) W (hL.below hb))
  have r4 := Kp.mk (fun W (hb : Below w.heap.size w W) => pad2_is (n := d) (by omega) (by omega) W (hL.below hb))
  have hT : textC y m d = ((if y < 0 then [45] else []) ++ padY y.natAbs) ++ [45] ++ fx 2 m.toNat ++ [45] ++ fx 2 d.toNat := rfl
  have hlen := pad_len (n := y.natAbs) (by omega)
  have hla : ((if y < 0 then [45] else []) ++ padY y.natAbs).length ≤ 18 := by rw [List.length_append]; split <;> simp <;> omega
  obtain ⟨a, ha⟩ : ∃ a, (if y < 0 then [45] else []) ++ padY y.natAbs = a := ⟨_, rfl⟩
  obtain ⟨b, hb⟩ : ∃ b, fx 2 m.toNat = b := ⟨_, rfl⟩
  obtain ⟨c, hc⟩ : ∃ c, fx 2 d.toNat = c := ⟨_, rfl⟩
  have hlb : b.length = 2 := by rw [← hb, fx_len]
  have hlc : c.length = 2 := by rw [← hc, fx_len]
  rw [ha, hb, hc] at hT
  rw [ha] at r2 hla
  rw [hb] at r3
  rw [hc] at r4
  have r5 := Kp.mk (fun (W : World) => str3 W a b c)
  have r5' := Kp.mk (fun (W : World) => str3' W a b c)
  have r6 := Kp.mk (fun g W h0 h1 h2 h3 => join3 (a := a) (b := b) (c := c) (by omega) g W h0 h1 h2 h3)
  have HT := Kp.mk hT
  clear hk hi h hlen hla ha hb hc hlb hlc hT hL
  go_enter Tryz.func27, Tryz.ntmps27
  go_upto_region 1 with fail
  generalize w.alloc (.cells #[.int .i64 y, .int .i64 m, .int .i64 d] 23) = w0 at *
  have k0 := HA.out.c0
  have k1 := HA.out.c1
  have k2 := HA.out.c2
  go_wp2_with fail
  refine (r1.out _ HA.out.below).mono ?_
  rintro e v0 ⟨rfl, hbl⟩
  clear k0 k1 k2
  have HA0 := Kp.mk (HA.out.step hbl)
  clear HA hbl
  have k0 := HA0.out.c0
  have k1 := HA0.out.c1
  have k2 := HA0.out.c2
  go_upto_region 4 with fail
  have hd := (Below.refl v0.heap.size v0).drew
  have HAd := Kp.mk (HA0.out.step hd)
  clear hd
  go_region_held3 (fun w' => w'.cell? ⟨w.heap.size, 0, none⟩ = some (.int .i64 y) ∧ w'.cell? ⟨w.heap.size, 1, none⟩ = some (.int .i64 m) ∧ w'.cell? ⟨w.heap.size, 2, none⟩ = some (.int .i64 d)) (first | (with_reducible exact ⟨k0, k1, k2⟩) | go_keep | (with_reducible exact ⟨k0_u1, k1_u1, k2_u1⟩) | (with_reducible exact ⟨k0_u2, k1_u2, k2_u2⟩) | (with_reducible exact ⟨k0_u3, k1_u3, k2_u3⟩) | (with_reducible exact ⟨k0_u4, k1_u4, k2_u4⟩))
    (first
    | (go_at_call 47; (with_reducible show Calls _ _ _ v0.drew _); (with_reducible refine (r2.out _ HAd.out.below).mono ?_); rintro e u1 ⟨rfl, hb⟩; have HA1 := Kp.mk (HAd.out.step hb); have k0_u1 := HA1.out.c0; have k1_u1 := HA1.out.c1; have k2_u1 := HA1.out.c2; clear hb)
    | (go_at_call 47; (with_reducible show Calls _ _ _ u1 _); (with_reducible refine (r3.out _ HA1.out.below).mono ?_); rintro e u2 ⟨rfl, hb⟩; have HA2 := Kp.mk (HA1.out.step hb); have k0_u2 := HA2.out.c0; have k1_u2 := HA2.out.c1; have k2_u2 := HA2.out.c2; clear hb)
    | (go_at_call 47; (with_reducible show Calls _ _ _ u2 _); (with_reducible refine (r4.out _ HA2.out.below).mono ?_); rintro e u3 ⟨rfl, hb⟩; have HA3 := Kp.mk (HA2.out.step hb); have k0_u3 := HA3.out.c0; have k1_u3 := HA3.out.c1; have k2_u3 := HA3.out.c2; clear hb; have HB4 := Kp.mk (r5.out u3); have HA4 := Kp.mk (HA3.out.step HB4.out.1); have k0_u4 := HA4.out.c0; have k1_u4 := HA4.out.c1; have k2_u4 := HA4.out.c2))
  go_wp2_with fail
  have h5 := r5'.out u3
  have HA5 := Kp.mk (HA3.out.step h5.1)
  refine (r6.out u3.heap.size _ h5.2.1 h5.2.2.1 h5.2.2.2.1 h5.2.2.2.2).mono ?_
  rintro e u5 ⟨rfl, hbl⟩
  have HB5 := Kp.mk (HA5.out.below.trans (hbl.mono HA5.out.below.size))
  clear hbl
  go_wp2_with fail
  go_ret2
  exact ⟨by rw [HT.out]; first | rfl | (simp only [List.append_assoc]; rfl), HB5.out⟩
set_option maxHeartbeats 1000000 in
theorem dText_out {y m d c : Int} (hc : chkC y m d = c) (h0 : ¬ c = 0) (w : World) (hL : LaidCv w) :
    Calls Tryz.prog 27 #[.agg #[.int .i64 y, .int .i64 m, .int .i64 d]] w fun e w' => e = .returned (.tuple #[.string ⟨#[]⟩, .int .i64 c]) ∧ Below w.heap.size w w' := by
  have HA := Kp.mk (cv_new y m d 23 (Below.refl w.heap.size w))
  have r1 := Kp.mk (fun W (hb : Below w.heap.size w W) => dChk hc W (hL.mo.below hb))
  have t : (c != 0) = true := by rw [bne_iff_ne]; exact h0
  clear hc h0 hL
  go_enter Tryz.func27, Tryz.ntmps27
  go_upto_region 1 with fail
  generalize w.alloc (.cells #[.int .i64 y, .int .i64 m, .int .i64 d] 23) = w0 at *
  have k0 := HA.out.c0
  have k1 := HA.out.c1
  have k2 := HA.out.c2
  go_wp2_with fail
  refine (r1.out _ HA.out.below).mono ?_
  rintro e v0 ⟨rfl, hbl⟩
  clear k0 k1 k2
  have HA0 := Kp.mk (HA.out.step hbl)
  clear HA hbl
  go_wp2_with fail
  go_ret2
  exact ⟨rfl, HA0.out.below⟩
end Go.Proofs.YtoafigehcgledaaGreatDoor
