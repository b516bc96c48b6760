/-
  SpanSound: no result is left out (the stage's theorem).
-/
import Derived.Test.YtpeieokmafpaiaaSpS
import Derived.Test.YtpeieokmafpaiaaSpW
namespace Go.Proofs.Ytpeieokmafpaiaa
set_option linter.unusedSimpArgs false
set_option linter.unusedVariables false
open Go.ChangeShapes Go.WideShapes Go.ChangeAt Go.RowKit

theorem alu_sound (op : Int) (c : Bool) (a b : Tn) (h : aluOk op a b) (x y : B64) (hx : Lies a x.toNat) (hy : Lies b y.toNat) :
    Lies (aluT op c a b) (oneB op.toNat c x y).toNat ∧ (aluT op c a b).2.toNat < modW c := by
  obtain ⟨h0, h1, ha, hb⟩ := id h
  have ha' : a.1.toNat ≤ a.2.toNat := of_decide_eq_true ha
  have hb' : b.1.toNat ≤ b.2.toNat := of_decide_eq_true hb
  obtain ⟨a1, a2, a3⟩ := cut_ok a (sizeW c) (sizeW_le c) ha'
  obtain ⟨b1, b2, b3⟩ := cut_ok b (sizeW c) (sizeW_le c) hb'
  rw [← modW_pow] at a2 a3 b2 b3
  obtain ⟨r1, r2⟩ := res_sound op.toNat (by omega) c _ _ a1 b1 a2 b2
  rw [show aluT op c a b = resS op.toNat c (cutK a (sizeW c)) (cutK b (sizeW c)) from if_pos h, oneB_is _ (by omega)]
  exact ⟨r1 _ _ (a3 _ hx) (b3 _ hy), r2⟩
/-- The box of what is given. -/
structure GI (w : World) (op : Int) (c : Bool) (A B : Tn) (X Y : B64) (w' : World) : Prop where
  lt : w.heap.size < w'.heap.size
  g0 : w'.cell? ⟨w.heap.size, 0, none⟩ = some (.int .i64 op)
  g1 : w'.cell? ⟨w.heap.size, 1, none⟩ = some (.bool c)
  g2 : w'.cell? ⟨w.heap.size, 2, none⟩ = some (.int .u64 (ub A.1))
  g3 : w'.cell? ⟨w.heap.size, 3, none⟩ = some (.int .u64 (ub A.2))
  g4 : w'.cell? ⟨w.heap.size, 4, none⟩ = some (.int .u64 (ub B.1))
  g5 : w'.cell? ⟨w.heap.size, 5, none⟩ = some (.int .u64 (ub B.2))
  g6 : w'.cell? ⟨w.heap.size, 6, none⟩ = some (.int .u64 (ub X))
  g7 : w'.cell? ⟨w.heap.size, 7, none⟩ = some (.int .u64 (ub Y))
  bel : Below w.heap.size w w'
theorem GI.next {w : World} {op : Int} {c : Bool} {A B : Tn} {X Y : B64} {w' w2 : World} (h : GI w op c A B X Y w') (hb : Below w'.heap.size w' w2) : GI w op c A B X Y w2 :=
  ⟨Nat.lt_of_lt_of_le h.lt hb.size, (hb.cell h.lt).trans h.g0, (hb.cell h.lt).trans h.g1, (hb.cell h.lt).trans h.g2, (hb.cell h.lt).trans h.g3, (hb.cell h.lt).trans h.g4, (hb.cell h.lt).trans h.g5, (hb.cell h.lt).trans h.g6, (hb.cell h.lt).trans h.g7, h.bel.trans (hb.mono h.bel.size)⟩
theorem GI.start (w : World) (op : Int) (c : Bool) (A B : Tn) (X Y : B64) (t : TypeId) : GI w op c A B X Y (w.alloc (.cells #[.int .i64 op, .bool c, .int .u64 (ub A.1), .int .u64 (ub A.2), .int .u64 (ub B.1), .int .u64 (ub B.2), .int .u64 (ub X), .int .u64 (ub Y)] t)) := by
  refine ⟨by simp, ?_, ?_, ?_, ?_, ?_, ?_, ?_, ?_, (Below.refl _ _).alloc (Nat.le_refl _) _⟩ <;> simp
set_option maxRecDepth 20000 in
set_option maxHeartbeats 8000000 in
theorem sound_walk (op : Int) (c : Bool) (A B : Tn) (X Y : B64) (w : World) : Calls Try.prog 11 #[.agg #[.int .i64 op, .bool c, .int .u64 (ub A.1), .int .u64 (ub A.2), .int .u64 (ub B.1), .int .u64 (ub B.2), .int .u64 (ub X), .int .u64 (ub Y)]] w fun e w' => e = .returned (.bool true) ∧ Below w.heap.size w w' := by
  have HX := fun W => sAlu_any op c A B W
  have HA := fun W => qMay_any A W
  have HC := fun W => qMay_any B W
  have HW := hid wakes_true
  by_cases h0 : op < 0
  ·
    have hn : ¬ aluOk op A B := by unfold aluOk; rintro ⟨x1, x2, x3, x4⟩; omega
    rw [show aluT op c A B = t0 from if_neg hn, show aluE op A B = 1 from if_neg hn] at HX
    clear hn
    obtain ⟨R, hR⟩ : ∃ R : Tn, R = t0 := ⟨_, rfl⟩
    rw [← hR] at HX
    have r1 : ub R.1 = 0 := by rw [hR]; rfl
    have r2 : ub R.2 = 0 := by rw [hR]; rfl
    clear hR
    unfold tv at HX HA HC
    rw [r1, r2] at HX
    replace HX := hid HX
    replace HA := hid HA
    replace HC := hid HC
    have I := GI.start w op c A B X Y 72
    go_enter Try.func11, Try.ntmps11
    go_wp2_with fail
    generalize w.alloc (.cells #[.int .i64 op, .bool c, .int .u64 (ub A.1), .int .u64 (ub A.2), .int .u64 (ub B.1), .int .u64 (ub B.2), .int .u64 (ub X), .int .u64 (ub Y)] 72) = w0 at I ⊢
    refine (HX.out _).mono ?_
    rintro e w1 ⟨rfl, z1⟩
    replace I := I.next z1
    clear z1
    have i0 := I.g0
    have i1 := I.g1
    have i2 := I.g2
    have i3 := I.g3
    have i4 := I.g4
    have i5 := I.g5
    have i6 := I.g6
    have i7 := I.g7
    have il := I.lt
    go_wp2_with fail
    refine (HW.out _).mono ?_
    rintro e w2 ⟨rfl, z2⟩
    clear il i0 i1 i2 i3 i4 i5 i6 i7
    have J : BC w2 w1.heap.size t0 := (BC.new (a := t0) rfl).below z2
    replace I := (I.next ((Below.refl _ _).alloc (Nat.le_refl _) (.cells #[.int .u64 0, .int .u64 0] 53))).next z2
    clear z2
    have HB := hid I.bel
    clear I J
    go_wp2
    go_ret
    exact ⟨rfl, HB.out⟩
  by_cases h1 : 12 < op
  ·
    have hn : ¬ aluOk op A B := by unfold aluOk; rintro ⟨x1, x2, x3, x4⟩; omega
    rw [show aluT op c A B = t0 from if_neg hn, show aluE op A B = 1 from if_neg hn] at HX
    clear hn
    obtain ⟨R, hR⟩ : ∃ R : Tn, R = t0 := ⟨_, rfl⟩
    rw [← hR] at HX
    have r1 : ub R.1 = 0 := by rw [hR]; rfl
    have r2 : ub R.2 = 0 := by rw [hR]; rfl
    clear hR
    unfold tv at HX HA HC
    rw [r1, r2] at HX
    replace HX := hid HX
    replace HA := hid HA
    replace HC := hid HC
    have I := GI.start w op c A B X Y 72
    go_enter Try.func11, Try.ntmps11
    go_wp2_with fail
    generalize w.alloc (.cells #[.int .i64 op, .bool c, .int .u64 (ub A.1), .int .u64 (ub A.2), .int .u64 (ub B.1), .int .u64 (ub B.2), .int .u64 (ub X), .int .u64 (ub Y)] 72) = w0 at I ⊢
    refine (HX.out _).mono ?_
    rintro e w1 ⟨rfl, z1⟩
    replace I := I.next z1
    clear z1
    have i0 := I.g0
    have i1 := I.g1
    have i2 := I.g2
    have i3 := I.g3
    have i4 := I.g4
    have i5 := I.g5
    have i6 := I.g6
    have i7 := I.g7
    have il := I.lt
    go_wp2_with fail
    refine (HW.out _).mono ?_
    rintro e w2 ⟨rfl, z2⟩
    clear il i0 i1 i2 i3 i4 i5 i6 i7
    have J : BC w2 w1.heap.size t0 := (BC.new (a := t0) rfl).below z2
    replace I := (I.next ((Below.refl _ _).alloc (Nat.le_refl _) (.cells #[.int .u64 0, .int .u64 0] 53))).next z2
    clear z2
    have HB := hid I.bel
    clear I J
    go_wp2
    go_ret
    exact ⟨rfl, HB.out⟩
  by_cases h2 : mayS A = true
  case neg =>
    rw [Bool.eq_false_iff.2 h2] at HA
    have hn : ¬ aluOk op A B := by unfold aluOk; rintro ⟨x1, x2, x3, x4⟩; exact h2 x3
    rw [show aluT op c A B = t0 from if_neg hn, show aluE op A B = 1 from if_neg hn] at HX
    clear hn
    obtain ⟨R, hR⟩ : ∃ R : Tn, R = t0 := ⟨_, rfl⟩
    rw [← hR] at HX
    have r1 : ub R.1 = 0 := by rw [hR]; rfl
    have r2 : ub R.2 = 0 := by rw [hR]; rfl
    clear hR
    unfold tv at HX HA HC
    rw [r1, r2] at HX
    replace HX := hid HX
    replace HA := hid HA
    replace HC := hid HC
    have I := GI.start w op c A B X Y 72
    go_enter Try.func11, Try.ntmps11
    go_wp2_with fail
    generalize w.alloc (.cells #[.int .i64 op, .bool c, .int .u64 (ub A.1), .int .u64 (ub A.2), .int .u64 (ub B.1), .int .u64 (ub B.2), .int .u64 (ub X), .int .u64 (ub Y)] 72) = w0 at I ⊢
    refine (HX.out _).mono ?_
    rintro e w1 ⟨rfl, z1⟩
    replace I := I.next z1
    clear z1
    have i0 := I.g0
    have i1 := I.g1
    have i2 := I.g2
    have i3 := I.g3
    have i4 := I.g4
    have i5 := I.g5
    have i6 := I.g6
    have i7 := I.g7
    have il := I.lt
    go_wp2_with fail
    refine (HA.out _).mono ?_
    rintro e w2 ⟨rfl, z2⟩
    clear il i0 i1 i2 i3 i4 i5 i6 i7
    have J : BC w2 w1.heap.size t0 := (BC.new (a := t0) rfl).below z2
    replace I := (I.next ((Below.refl _ _).alloc (Nat.le_refl _) (.cells #[.int .u64 0, .int .u64 0] 53))).next z2
    clear z2
    have i0 := I.g0
    have i1 := I.g1
    have i2 := I.g2
    have i3 := I.g3
    have i4 := I.g4
    have i5 := I.g5
    have i6 := I.g6
    have i7 := I.g7
    have il := I.lt
    have j0 := J.c0
    have j1 := J.c1
    have jl := J.lt
    go_wp2_with fail
    refine (HW.out _).mono ?_
    rintro e w3 ⟨rfl, z3⟩
    clear il i0 i1 i2 i3 i4 i5 i6 i7 j0 j1 jl
    replace I := I.next z3
    replace J := J.below z3
    clear z3
    have HB := hid I.bel
    clear I J
    go_wp2
    go_ret
    exact ⟨rfl, HB.out⟩
  by_cases h3 : mayS B = true
  case neg =>
    rw [Bool.eq_false_iff.2 h3] at HC
    rw [h2] at HA
    have hn : ¬ aluOk op A B := by unfold aluOk; rintro ⟨x1, x2, x3, x4⟩; exact h3 x4
    rw [show aluT op c A B = t0 from if_neg hn, show aluE op A B = 1 from if_neg hn] at HX
    clear hn
    obtain ⟨R, hR⟩ : ∃ R : Tn, R = t0 := ⟨_, rfl⟩
    rw [← hR] at HX
    have r1 : ub R.1 = 0 := by rw [hR]; rfl
    have r2 : ub R.2 = 0 := by rw [hR]; rfl
    clear hR
    unfold tv at HX HA HC
    rw [r1, r2] at HX
    replace HX := hid HX
    replace HA := hid HA
    replace HC := hid HC
    have I := GI.start w op c A B X Y 72
    go_enter Try.func11, Try.ntmps11
    go_wp2_with fail
    generalize w.alloc (.cells #[.int .i64 op, .bool c, .int .u64 (ub A.1), .int .u64 (ub A.2), .int .u64 (ub B.1), .int .u64 (ub B.2), .int .u64 (ub X), .int .u64 (ub Y)] 72) = w0 at I ⊢
    refine (HX.out _).mono ?_
    rintro e w1 ⟨rfl, z1⟩
    replace I := I.next z1
    clear z1
    have i0 := I.g0
    have i1 := I.g1
    have i2 := I.g2
    have i3 := I.g3
    have i4 := I.g4
    have i5 := I.g5
    have i6 := I.g6
    have i7 := I.g7
    have il := I.lt
    go_wp2_with fail
    refine (HA.out _).mono ?_
    rintro e w2 ⟨rfl, z2⟩
    clear il i0 i1 i2 i3 i4 i5 i6 i7
    have J : BC w2 w1.heap.size t0 := (BC.new (a := t0) rfl).below z2
    replace I := (I.next ((Below.refl _ _).alloc (Nat.le_refl _) (.cells #[.int .u64 0, .int .u64 0] 53))).next z2
    clear z2
    have i0 := I.g0
    have i1 := I.g1
    have i2 := I.g2
    have i3 := I.g3
    have i4 := I.g4
    have i5 := I.g5
    have i6 := I.g6
    have i7 := I.g7
    have il := I.lt
    have j0 := J.c0
    have j1 := J.c1
    have jl := J.lt
    go_wp2_with fail
    refine (HC.out _).mono ?_
    rintro e w3 ⟨rfl, z3⟩
    clear il i0 i1 i2 i3 i4 i5 i6 i7 j0 j1 jl
    replace I := I.next z3
    replace J := J.below z3
    clear z3
    have i0 := I.g0
    have i1 := I.g1
    have i2 := I.g2
    have i3 := I.g3
    have i4 := I.g4
    have i5 := I.g5
    have i6 := I.g6
    have i7 := I.g7
    have il := I.lt
    have j0 := J.c0
    have j1 := J.c1
    have jl := J.lt
    go_wp2_with fail
    refine (HW.out _).mono ?_
    rintro e w4 ⟨rfl, z4⟩
    clear il i0 i1 i2 i3 i4 i5 i6 i7 j0 j1 jl
    replace I := I.next z4
    replace J := J.below z4
    clear z4
    have HB := hid I.bel
    clear I J
    go_wp2
    go_ret
    exact ⟨rfl, HB.out⟩
  have hok : aluOk op A B := ⟨by omega, by omega, h2, h3⟩
  have hA' : A.1.toNat ≤ A.2.toNat := of_decide_eq_true h2
  have hB' : B.1.toNat ≤ B.2.toNat := of_decide_eq_true h3
  obtain ⟨⟨s1, s2⟩, s3⟩ := alu_sound op c A B hok (pickB A X) (pickB B Y) (pick_lies A X hA') (pick_lies B Y hB')
  rw [h2] at HA
  rw [h3] at HC
  rw [show aluE op A B = 0 from if_pos hok] at HX
  have HP1 := fun W => lPick_any A X W
  have HP2 := fun W => lPick_any B Y W
  have HN := fun W => qOne_any op.toNat (by omega) c (pickB A X) (pickB B Y) W
  rw [Int.toNat_of_nonneg (by omega)] at HN
  clear hok hA' hB' h2 h3
  generalize oneB op.toNat c (pickB A X) (pickB B Y) = n at *
  generalize pickB A X = P1 at *
  generalize pickB B Y = P2 at *
  generalize aluT op c A B = R at *
  replace s1 := of_le s1
  replace s2 := of_le s2
  have s4 : c = false → ub R.2 < 4294967296 := by rintro rfl; unfold ub; have : R.2.toNat < 4294967296 := s3; omega
  clear s3
  unfold tv at HX HA HC HP1 HP2
  replace HX := hid HX
  replace HA := hid HA
  replace HC := hid HC
  replace HP1 := hid HP1
  replace HP2 := hid HP2
  replace HN := hid HN
  replace s4 := hid s4
  have I := GI.start w op c A B X Y 72
  go_enter Try.func11, Try.ntmps11
  go_wp2_with fail
  generalize w.alloc (.cells #[.int .i64 op, .bool c, .int .u64 (ub A.1), .int .u64 (ub A.2), .int .u64 (ub B.1), .int .u64 (ub B.2), .int .u64 (ub X), .int .u64 (ub Y)] 72) = w0 at I ⊢
  refine (HX.out _).mono ?_
  rintro e w1 ⟨rfl, z1⟩
  replace I := I.next z1
  clear z1
  have i0 := I.g0
  have i1 := I.g1
  have i2 := I.g2
  have i3 := I.g3
  have i4 := I.g4
  have i5 := I.g5
  have i6 := I.g6
  have i7 := I.g7
  have il := I.lt
  go_wp2_with fail
  refine (HA.out _).mono ?_
  rintro e w2 ⟨rfl, z2⟩
  clear il i0 i1 i2 i3 i4 i5 i6 i7
  have J : BC w2 w1.heap.size R := (BC.new rfl).below z2
  replace I := (I.next ((Below.refl _ _).alloc (Nat.le_refl _) (.cells #[.int .u64 (ub R.1), .int .u64 (ub R.2)] 53))).next z2
  clear z2
  have i0 := I.g0
  have i1 := I.g1
  have i2 := I.g2
  have i3 := I.g3
  have i4 := I.g4
  have i5 := I.g5
  have i6 := I.g6
  have i7 := I.g7
  have il := I.lt
  have j0 := J.c0
  have j1 := J.c1
  have jl := J.lt
  go_wp2_with fail
  refine (HC.out _).mono ?_
  rintro e w4 ⟨rfl, z4⟩
  clear il i0 i1 i2 i3 i4 i5 i6 i7 j0 j1 jl
  replace I := I.next z4
  replace J := J.below z4
  clear z4
  have i0 := I.g0
  have i1 := I.g1
  have i2 := I.g2
  have i3 := I.g3
  have i4 := I.g4
  have i5 := I.g5
  have i6 := I.g6
  have i7 := I.g7
  have il := I.lt
  have j0 := J.c0
  have j1 := J.c1
  have jl := J.lt
  go_wp2_with fail
  clear il jl
  go_region_held3 (fun w' => w'.cell? ⟨w.heap.size, 0, none⟩ = some (.int .i64 op) ∧ w'.cell? ⟨w.heap.size, 1, none⟩ = some (.bool c) ∧ w'.cell? ⟨w.heap.size, 2, none⟩ = some (.int .u64 (ub A.1)) ∧ w'.cell? ⟨w.heap.size, 3, none⟩ = some (.int .u64 (ub A.2)) ∧ w'.cell? ⟨w.heap.size, 4, none⟩ = some (.int .u64 (ub B.1)) ∧ w'.cell? ⟨w.heap.size, 5, none⟩ = some (.int .u64 (ub B.2)) ∧ w'.cell? ⟨w.heap.size, 6, none⟩ = some (.int .u64 (ub X)) ∧ w'.cell? ⟨w.heap.size, 7, none⟩ = some (.int .u64 (ub Y)) ∧ GI w op c A B X Y w' ∧ BC w' w1.heap.size R)
    (first
        | (go_split_ands; exact ⟨by with_reducible assumption, by with_reducible assumption, by with_reducible assumption, by with_reducible assumption, by with_reducible assumption, by with_reducible assumption, by with_reducible assumption, by with_reducible assumption, by with_reducible assumption, by with_reducible assumption⟩)
        | exact ⟨cn bq (by with_reducible assumption), cn bq (by with_reducible assumption), cn bq (by with_reducible assumption), cn bq (by with_reducible assumption), cn bq (by with_reducible assumption), cn bq (by with_reducible assumption), cn bq (by with_reducible assumption), cn bq (by with_reducible assumption), GI.next (by with_reducible assumption) bq, BC.below (by with_reducible assumption) bq⟩
        | exact ⟨cn (below_dr w4) i0, cn (below_dr w4) i1, cn (below_dr w4) i2, cn (below_dr w4) i3, cn (below_dr w4) i4, cn (below_dr w4) i5, cn (below_dr w4) i6, cn (below_dr w4) i7, I.next (below_dr w4), J.below (below_dr w4)⟩)
    (first | (go_at_call 57; go_split_ands; (with_reducible refine (HP1.out _).mono ?_); rintro e wq ⟨rfl, bq⟩) | (go_at_call 57; go_split_ands; (with_reducible refine (HP2.out _).mono ?_); rintro e wq ⟨rfl, bq⟩) | (go_at_call 56; go_split_ands; (with_reducible refine (HN.out _).mono ?_); rintro e wr ⟨rfl, rfl⟩))
  go_split_ands
  replace I : GI w op c A B X Y wr := by assumption
  replace J : BC wr w1.heap.size R := by assumption
  clear i0 i1 i2 i3 i4 i5 i6 i7 j0 j1
  cases c
  · replace s4 := s4.out rfl
    have i0 := I.g0
    have i1 := I.g1
    have i2 := I.g2
    have i3 := I.g3
    have i4 := I.g4
    have i5 := I.g5
    have i6 := I.g6
    have i7 := I.g7
    have il := I.lt
    have j0 := J.c0
    have j1 := J.c1
    have jl := J.lt
    go_wp2_with fail
    refine (HW.out _).mono ?_
    rintro e w5 ⟨rfl, z5⟩
    clear il i0 i1 i2 i3 i4 i5 i6 i7 j0 j1 jl
    replace I := I.next z5
    replace J := J.below z5
    clear z5
    have HB := hid I.bel
    clear I J
    go_wp2
    go_ret
    exact ⟨rfl, HB.out⟩
  · clear s4
    have i0 := I.g0
    have i1 := I.g1
    have i2 := I.g2
    have i3 := I.g3
    have i4 := I.g4
    have i5 := I.g5
    have i6 := I.g6
    have i7 := I.g7
    have il := I.lt
    have j0 := J.c0
    have j1 := J.c1
    have jl := J.lt
    go_wp2_with fail
    refine (HW.out _).mono ?_
    rintro e w5 ⟨rfl, z5⟩
    clear il i0 i1 i2 i3 i4 i5 i6 i7 j0 j1 jl
    replace I := I.next z5
    replace J := J.below z5
    clear z5
    have HB := hid I.bel
    clear I J
    go_wp2
    go_ret
    exact ⟨rfl, HB.out⟩
end Go.Proofs.Ytpeieokmafpaiaa
