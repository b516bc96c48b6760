/-
  SpanGrows: a greater span on either side makes no lesser one.
-/
import Derived.Test.YtpeieokmafpaiaaSpGp
import Derived.Test.YtpeieokmafpaiaaSpX
namespace Go.Proofs.Ytpeieokmafpaiaa
set_option linter.unusedSimpArgs false
set_option linter.unusedVariables false
open Go.ChangeShapes Go.WideShapes Go.ChangeAt Go.RowKit

theorem gr_start (w : World) (op : Int) (c : Bool) (A B : Tn) (X Y : B64) (C D : Tn) (t t' t'' : TypeId) :
    GI w op c A B X Y (((w.alloc (.cells #[.int .i64 op, .bool c, .int .u64 (ub A.1), .int .u64 (ub A.2), .int .u64 (ub B.1), .int .u64 (ub B.2), .int .u64 (ub X), .int .u64 (ub Y)] t)).alloc (.cells #[.int .u64 (ub C.1), .int .u64 (ub C.2)] t')).alloc (.cells #[.int .u64 (ub D.1), .int .u64 (ub D.2)] t'')) ∧ BC (((w.alloc (.cells #[.int .i64 op, .bool c, .int .u64 (ub A.1), .int .u64 (ub A.2), .int .u64 (ub B.1), .int .u64 (ub B.2), .int .u64 (ub X), .int .u64 (ub Y)] t)).alloc (.cells #[.int .u64 (ub C.1), .int .u64 (ub C.2)] t')).alloc (.cells #[.int .u64 (ub D.1), .int .u64 (ub D.2)] t'')) (w.heap.size + 1) C ∧ BC (((w.alloc (.cells #[.int .i64 op, .bool c, .int .u64 (ub A.1), .int .u64 (ub A.2), .int .u64 (ub B.1), .int .u64 (ub B.2), .int .u64 (ub X), .int .u64 (ub Y)] t)).alloc (.cells #[.int .u64 (ub C.1), .int .u64 (ub C.2)] t')).alloc (.cells #[.int .u64 (ub D.1), .int .u64 (ub D.2)] t'')) (w.heap.size + 1 + 1) D := by
  have e1 := GI.start w op c A B X Y t
  have s1 : (w.alloc (.cells #[.int .i64 op, .bool c, .int .u64 (ub A.1), .int .u64 (ub A.2), .int .u64 (ub B.1), .int .u64 (ub B.2), .int .u64 (ub X), .int .u64 (ub Y)] t)).heap.size = w.heap.size + 1 := by simp
  generalize w.alloc (.cells #[.int .i64 op, .bool c, .int .u64 (ub A.1), .int .u64 (ub A.2), .int .u64 (ub B.1), .int .u64 (ub B.2), .int .u64 (ub X), .int .u64 (ub Y)] t) = u1 at *
  have e2 := BC.new (w := u1) (a := C) (t := t') s1.symm
  have b2 : Below u1.heap.size u1 (u1.alloc (.cells #[.int .u64 (ub C.1), .int .u64 (ub C.2)] t')) := (Below.refl _ _).alloc (Nat.le_refl _) _
  have s2 : (u1.alloc (.cells #[.int .u64 (ub C.1), .int .u64 (ub C.2)] t')).heap.size = w.heap.size + 1 + 1 := by simp; omega
  generalize u1.alloc (.cells #[.int .u64 (ub C.1), .int .u64 (ub C.2)] t') = u2 at *
  have e3 := BC.new (w := u2) (a := D) (t := t'') s2.symm
  have b3 : Below u2.heap.size u2 (u2.alloc (.cells #[.int .u64 (ub D.1), .int .u64 (ub D.2)] t'')) := (Below.refl _ _).alloc (Nat.le_refl _) _
  exact ⟨(e1.next b2).next b3, e2.below b3, e3⟩
set_option maxRecDepth 20000 in
set_option maxHeartbeats 16000000 in
theorem grows_walk (op : Int) (c : Bool) (A B : Tn) (X Y : B64) (C D : Tn) (bits : Int) (w : World) : Calls Try.prog 13 #[.agg #[.int .i64 op, .bool c, .int .u64 (ub A.1), .int .u64 (ub A.2), .int .u64 (ub B.1), .int .u64 (ub B.2), .int .u64 (ub X), .int .u64 (ub Y)], tv C, tv D, .int .i64 bits] w fun e w' => e = .returned (.bool true) ∧ Below w.heap.size w w' := by
  have HA := fun W => qMay_any A W
  have HC := fun W => qMay_any B W
  have HW := hid wakes_true
  unfold tv
  by_cases h2 : mayS A = true
  case neg =>
    rw [Bool.eq_false_iff.2 h2] at HA
    unfold tv at HA
    replace HA := hid HA
    obtain ⟨I, JC, JD⟩ := gr_start w op c A B X Y C D 72 53 53
    go_enter Try.func13, Try.ntmps13
    go_wp2_with fail
    generalize ((w.alloc (.cells #[.int .i64 op, .bool c, .int .u64 (ub A.1), .int .u64 (ub A.2), .int .u64 (ub B.1), .int .u64 (ub B.2), .int .u64 (ub X), .int .u64 (ub Y)] 72)).alloc (.cells #[.int .u64 (ub C.1), .int .u64 (ub C.2)] 53)).alloc (.cells #[.int .u64 (ub D.1), .int .u64 (ub D.2)] 53) = w0 at I JC JD ⊢
    refine (HA.out _).mono ?_
    rintro e w1 ⟨rfl, z⟩
    replace I := I.next z
    replace JC := JC.below z
    replace JD := JD.below z
    clear z
    have i0 := I.g0
    have i1 := I.g1
    have i2 := I.g2
    have i3 := I.g3
    have i4 := I.g4
    have i5 := I.g5
    have i6 := I.g6
    have i7 := I.g7
    have il := I.lt
    have JC0 := JC.c0
    have JC1 := JC.c1
    have JCl := JC.lt
    have JD0 := JD.c0
    have JD1 := JD.c1
    have JDl := JD.lt
    go_wp2_with fail
    refine (HW.out _).mono ?_
    rintro e w2 ⟨rfl, z⟩
    clear i0 i1 i2 i3 i4 i5 i6 i7 il JC0 JC1 JCl JD0 JD1 JDl
    replace I := I.next z
    replace JC := JC.below z
    replace JD := JD.below z
    clear z
    have i0 := I.g0
    have i1 := I.g1
    have i2 := I.g2
    have i3 := I.g3
    have i4 := I.g4
    have i5 := I.g5
    have i6 := I.g6
    have i7 := I.g7
    have il := I.lt
    have JC0 := JC.c0
    have JC1 := JC.c1
    have JCl := JC.lt
    have JD0 := JD.c0
    have JD1 := JD.c1
    have JDl := JD.lt
    have HB := hid I.bel
    clear I JC JD
    go_wp2
    go_ret
    exact ⟨rfl, HB.out⟩
  by_cases h3 : mayS B = true
  case neg =>
    rw [Bool.eq_false_iff.2 h3] at HC
    rw [h2] at HA
    unfold tv at HA HC
    replace HA := hid HA
    replace HC := hid HC
    obtain ⟨I, JC, JD⟩ := gr_start w op c A B X Y C D 72 53 53
    go_enter Try.func13, Try.ntmps13
    go_wp2_with fail
    generalize ((w.alloc (.cells #[.int .i64 op, .bool c, .int .u64 (ub A.1), .int .u64 (ub A.2), .int .u64 (ub B.1), .int .u64 (ub B.2), .int .u64 (ub X), .int .u64 (ub Y)] 72)).alloc (.cells #[.int .u64 (ub C.1), .int .u64 (ub C.2)] 53)).alloc (.cells #[.int .u64 (ub D.1), .int .u64 (ub D.2)] 53) = w0 at I JC JD ⊢
    refine (HA.out _).mono ?_
    rintro e w1 ⟨rfl, z⟩
    replace I := I.next z
    replace JC := JC.below z
    replace JD := JD.below z
    clear z
    have i0 := I.g0
    have i1 := I.g1
    have i2 := I.g2
    have i3 := I.g3
    have i4 := I.g4
    have i5 := I.g5
    have i6 := I.g6
    have i7 := I.g7
    have il := I.lt
    have JC0 := JC.c0
    have JC1 := JC.c1
    have JCl := JC.lt
    have JD0 := JD.c0
    have JD1 := JD.c1
    have JDl := JD.lt
    go_wp2_with fail
    refine (HC.out _).mono ?_
    rintro e w2 ⟨rfl, z⟩
    clear i0 i1 i2 i3 i4 i5 i6 i7 il JC0 JC1 JCl JD0 JD1 JDl
    replace I := I.next z
    replace JC := JC.below z
    replace JD := JD.below z
    clear z
    have i0 := I.g0
    have i1 := I.g1
    have i2 := I.g2
    have i3 := I.g3
    have i4 := I.g4
    have i5 := I.g5
    have i6 := I.g6
    have i7 := I.g7
    have il := I.lt
    have JC0 := JC.c0
    have JC1 := JC.c1
    have JCl := JC.lt
    have JD0 := JD.c0
    have JD1 := JD.c1
    have JDl := JD.lt
    go_wp2_with fail
    refine (HW.out _).mono ?_
    rintro e w3 ⟨rfl, z⟩
    clear i0 i1 i2 i3 i4 i5 i6 i7 il JC0 JC1 JCl JD0 JD1 JDl
    replace I := I.next z
    replace JC := JC.below z
    replace JD := JD.below z
    clear z
    have i0 := I.g0
    have i1 := I.g1
    have i2 := I.g2
    have i3 := I.g3
    have i4 := I.g4
    have i5 := I.g5
    have i6 := I.g6
    have i7 := I.g7
    have il := I.lt
    have JC0 := JC.c0
    have JC1 := JC.c1
    have JCl := JC.lt
    have JD0 := JD.c0
    have JD1 := JD.c1
    have JDl := JD.lt
    have HB := hid I.bel
    clear I JC JD
    go_wp2
    go_ret
    exact ⟨rfl, HB.out⟩
  obtain ⟨sa, mp⟩ := join_may A C h2
  obtain ⟨sb, mq⟩ := join_may B D h3
  have HJa := fun W => sJoin_any A C W
  have HJb := fun W => sJoin_any B D W
  generalize joinSp A C = P at *
  generalize joinSp B D = Q at *
  have HX := fun W => sAlu_any op c A B W
  have HY := fun W => sAlu_any op c P Q W
  have HM := fun W => sMeet_any A B W
  have HN := fun W => sMeet_any P Q W
  have HJ1 := fun W => sJoin_any A B W
  have HJ2 := fun W => sJoin_any P Q W
  have HK1 := fun W => sCut_any A bits W
  have HK2 := fun W => sCut_any P bits W
  have HIa := fun W => sIn_any A P W
  have HIb := fun W => sIn_any B Q W
  have HIj := fun W => sIn_any (joinSp A B) (joinSp P Q) W
  have HIk := fun W => sIn_any (cutK A (clampN bits)) (cutK P (clampN bits)) W
  rw [(in_iff A P).2 ⟨h2, sa⟩] at HIa
  rw [(in_iff B Q).2 ⟨h3, sb⟩] at HIb
  rw [join_in A B P Q h2 h3 sa sb] at HIj
  rw [cut_in A P _ (clamp_is bits).2 h2 sa] at HIk
  have HI0 := fun W => sIn_any (aluT op c A B) (aluT op c P Q) W
  have HI1 := fun W => sIn_any (meetS A B) (meetS P Q) W
  have HI2 := fun W => sIn_any (meetS A B) A W
  have HI3 := fun W => sIn_any (meetS A B) B W
  have pm := meet_in A B P Q sa sb
  have pa : aluOk op A B → aluOk op P Q ∧ inSp (aluT op c A B) (aluT op c P Q) = true := fun h => alu_in op c A B P Q h sa sb
  have pn : ¬ aluOk op A B → ¬ aluOk op P Q := fun h k => h ⟨k.1, k.2.1, h2, h3⟩
  rw [h2] at HA
  rw [h3] at HC
  clear sa sb mp mq h2 h3
  generalize joinSp A B = J1 at *
  generalize joinSp P Q = J2 at *
  generalize cutK A (clampN bits) = K1 at *
  generalize cutK P (clampN bits) = K2 at *
  unfold tv at HA HC HJa HJb HX HY HM HN HJ1 HJ2 HK1 HK2 HIa HIb HIj HIk HI0 HI1 HI2 HI3
  replace HA := hid HA
  replace HC := hid HC
  replace HJa := hid HJa
  replace HJb := hid HJb
  replace HJ1 := hid HJ1
  replace HJ2 := hid HJ2
  replace HK1 := hid HK1
  replace HK2 := hid HK2
  replace HIa := hid HIa
  replace HIb := hid HIb
  replace HIj := hid HIj
  replace HIk := hid HIk
  by_cases hok : aluOk op A B
  case pos =>
    obtain ⟨hok2, hin⟩ := pa hok
    rw [show aluE op A B = 0 from if_pos hok] at HX
    rw [show aluE op P Q = 0 from if_pos hok2] at HY
    rw [hin] at HI0
    clear pa pn hok hok2 hin
    generalize aluT op c A B = RX at *
    generalize aluT op c P Q = RY at *
    replace HX := hid HX
    replace HY := hid HY
    replace HI0 := hid HI0
    by_cases hm : mayS (meetP A B) = true
    case pos =>
      obtain ⟨m1, m2, m3, m4⟩ := pm hm
      rw [hm] at HM
      rw [m1] at HN
      rw [m2] at HI1
      rw [m3] at HI2
      rw [m4] at HI3
      clear pm hm m1 m2 m3 m4
      generalize meetS A B = M at *
      generalize meetS P Q = N at *
      replace HM := hid HM
      replace HN := hid HN
      replace HI1 := hid HI1
      replace HI2 := hid HI2
      replace HI3 := hid HI3
      obtain ⟨I, JC, JD⟩ := gr_start w op c A B X Y C D 72 53 53
      go_enter Try.func13, Try.ntmps13
      go_wp2_with fail
      generalize ((w.alloc (.cells #[.int .i64 op, .bool c, .int .u64 (ub A.1), .int .u64 (ub A.2), .int .u64 (ub B.1), .int .u64 (ub B.2), .int .u64 (ub X), .int .u64 (ub Y)] 72)).alloc (.cells #[.int .u64 (ub C.1), .int .u64 (ub C.2)] 53)).alloc (.cells #[.int .u64 (ub D.1), .int .u64 (ub D.2)] 53) = w0 at I JC JD ⊢
      refine (HA.out _).mono ?_
      rintro e w1 ⟨rfl, z⟩
      replace I := I.next z
      replace JC := JC.below z
      replace JD := JD.below z
      clear z
      have i0 := I.g0
      have i1 := I.g1
      have i2 := I.g2
      have i3 := I.g3
      have i4 := I.g4
      have i5 := I.g5
      have i6 := I.g6
      have i7 := I.g7
      have il := I.lt
      have JC0 := JC.c0
      have JC1 := JC.c1
      have JCl := JC.lt
      have JD0 := JD.c0
      have JD1 := JD.c1
      have JDl := JD.lt
      go_wp2_with fail
      refine (HC.out _).mono ?_
      rintro e w2 ⟨rfl, z⟩
      clear i0 i1 i2 i3 i4 i5 i6 i7 il JC0 JC1 JCl JD0 JD1 JDl
      replace I := I.next z
      replace JC := JC.below z
      replace JD := JD.below z
      clear z
      have i0 := I.g0
      have i1 := I.g1
      have i2 := I.g2
      have i3 := I.g3
      have i4 := I.g4
      have i5 := I.g5
      have i6 := I.g6
      have i7 := I.g7
      have il := I.lt
      have JC0 := JC.c0
      have JC1 := JC.c1
      have JCl := JC.lt
      have JD0 := JD.c0
      have JD1 := JD.c1
      have JDl := JD.lt
      go_wp2_with fail
      refine (HJa.out _).mono ?_
      rintro e w3 ⟨rfl, z⟩
      clear i0 i1 i2 i3 i4 i5 i6 i7 il JC0 JC1 JCl JD0 JD1 JDl
      replace I := I.next z
      replace JC := JC.below z
      replace JD := JD.below z
      clear z
      have i0 := I.g0
      have i1 := I.g1
      have i2 := I.g2
      have i3 := I.g3
      have i4 := I.g4
      have i5 := I.g5
      have i6 := I.g6
      have i7 := I.g7
      have il := I.lt
      have JC0 := JC.c0
      have JC1 := JC.c1
      have JCl := JC.lt
      have JD0 := JD.c0
      have JD1 := JD.c1
      have JDl := JD.lt
      go_wp2_with fail
      refine (HJb.out _).mono ?_
      rintro e w4 ⟨rfl, z⟩
      clear i0 i1 i2 i3 i4 i5 i6 i7 il JC0 JC1 JCl JD0 JD1 JDl
      have JP : BC w4 w3.heap.size P := (BC.new (a := P) rfl).below z
      have ba : Below w3.heap.size w3 (w3.alloc (.cells #[.int .u64 (ub P.1), .int .u64 (ub P.2)] 53)) := (Below.refl _ _).alloc (Nat.le_refl _) _
      replace I := I.next ba
      replace JC := JC.below ba
      replace JD := JD.below ba
      clear ba
      replace I := I.next z
      replace JC := JC.below z
      replace JD := JD.below z
      clear z
      have i0 := I.g0
      have i1 := I.g1
      have i2 := I.g2
      have i3 := I.g3
      have i4 := I.g4
      have i5 := I.g5
      have i6 := I.g6
      have i7 := I.g7
      have il := I.lt
      have JC0 := JC.c0
      have JC1 := JC.c1
      have JCl := JC.lt
      have JD0 := JD.c0
      have JD1 := JD.c1
      have JDl := JD.lt
      have JP0 := JP.c0
      have JP1 := JP.c1
      have JPl := JP.lt
      go_wp2_with fail
      refine (HX.out _).mono ?_
      rintro e w5 ⟨rfl, z⟩
      clear i0 i1 i2 i3 i4 i5 i6 i7 il JC0 JC1 JCl JD0 JD1 JDl JP0 JP1 JPl
      have JQ : BC w5 w4.heap.size Q := (BC.new (a := Q) rfl).below z
      have ba : Below w4.heap.size w4 (w4.alloc (.cells #[.int .u64 (ub Q.1), .int .u64 (ub Q.2)] 53)) := (Below.refl _ _).alloc (Nat.le_refl _) _
      replace I := I.next ba
      replace JC := JC.below ba
      replace JD := JD.below ba
      replace JP := JP.below ba
      clear ba
      replace I := I.next z
      replace JC := JC.below z
      replace JD := JD.below z
      replace JP := JP.below z
      clear z
      have i0 := I.g0
      have i1 := I.g1
      have i2 := I.g2
      have i3 := I.g3
      have i4 := I.g4
      have i5 := I.g5
      have i6 := I.g6
      have i7 := I.g7
      have il := I.lt
      have JC0 := JC.c0
      have JC1 := JC.c1
      have JCl := JC.lt
      have JD0 := JD.c0
      have JD1 := JD.c1
      have JDl := JD.lt
      have JP0 := JP.c0
      have JP1 := JP.c1
      have JPl := JP.lt
      have JQ0 := JQ.c0
      have JQ1 := JQ.c1
      have JQl := JQ.lt
      go_wp2_with fail
      refine (HY.out _).mono ?_
      rintro e w6 ⟨rfl, z⟩
      clear i0 i1 i2 i3 i4 i5 i6 i7 il JC0 JC1 JCl JD0 JD1 JDl JP0 JP1 JPl JQ0 JQ1 JQl
      have JX : BC w6 w5.heap.size RX := (BC.new (a := RX) rfl).below z
      have ba : Below w5.heap.size w5 (w5.alloc (.cells #[.int .u64 (ub RX.1), .int .u64 (ub RX.2)] 53)) := (Below.refl _ _).alloc (Nat.le_refl _) _
      replace I := I.next ba
      replace JC := JC.below ba
      replace JD := JD.below ba
      replace JP := JP.below ba
      replace JQ := JQ.below ba
      clear ba
      replace I := I.next z
      replace JC := JC.below z
      replace JD := JD.below z
      replace JP := JP.below z
      replace JQ := JQ.below z
      clear z
      have i0 := I.g0
      have i1 := I.g1
      have i2 := I.g2
      have i3 := I.g3
      have i4 := I.g4
      have i5 := I.g5
      have i6 := I.g6
      have i7 := I.g7
      have il := I.lt
      have JC0 := JC.c0
      have JC1 := JC.c1
      have JCl := JC.lt
      have JD0 := JD.c0
      have JD1 := JD.c1
      have JDl := JD.lt
      have JP0 := JP.c0
      have JP1 := JP.c1
      have JPl := JP.lt
      have JQ0 := JQ.c0
      have JQ1 := JQ.c1
      have JQl := JQ.lt
      have JX0 := JX.c0
      have JX1 := JX.c1
      have JXl := JX.lt
      go_wp2_with fail
      refine (HI0.out _).mono ?_
      rintro e w7 ⟨rfl, z⟩
      clear i0 i1 i2 i3 i4 i5 i6 i7 il JC0 JC1 JCl JD0 JD1 JDl JP0 JP1 JPl JQ0 JQ1 JQl JX0 JX1 JXl
      have JY : BC w7 w6.heap.size RY := (BC.new (a := RY) rfl).below z
      have ba : Below w6.heap.size w6 (w6.alloc (.cells #[.int .u64 (ub RY.1), .int .u64 (ub RY.2)] 53)) := (Below.refl _ _).alloc (Nat.le_refl _) _
      replace I := I.next ba
      replace JC := JC.below ba
      replace JD := JD.below ba
      replace JP := JP.below ba
      replace JQ := JQ.below ba
      replace JX := JX.below ba
      clear ba
      replace I := I.next z
      replace JC := JC.below z
      replace JD := JD.below z
      replace JP := JP.below z
      replace JQ := JQ.below z
      replace JX := JX.below z
      clear z
      have i0 := I.g0
      have i1 := I.g1
      have i2 := I.g2
      have i3 := I.g3
      have i4 := I.g4
      have i5 := I.g5
      have i6 := I.g6
      have i7 := I.g7
      have il := I.lt
      have JC0 := JC.c0
      have JC1 := JC.c1
      have JCl := JC.lt
      have JD0 := JD.c0
      have JD1 := JD.c1
      have JDl := JD.lt
      have JP0 := JP.c0
      have JP1 := JP.c1
      have JPl := JP.lt
      have JQ0 := JQ.c0
      have JQ1 := JQ.c1
      have JQl := JQ.lt
      have JX0 := JX.c0
      have JX1 := JX.c1
      have JXl := JX.lt
      have JY0 := JY.c0
      have JY1 := JY.c1
      have JYl := JY.lt
      go_wp2_with fail
      refine (HM.out _).mono ?_
      rintro e w8 ⟨rfl, z⟩
      clear i0 i1 i2 i3 i4 i5 i6 i7 il JC0 JC1 JCl JD0 JD1 JDl JP0 JP1 JPl JQ0 JQ1 JQl JX0 JX1 JXl JY0 JY1 JYl
      replace I := I.next z
      replace JC := JC.below z
      replace JD := JD.below z
      replace JP := JP.below z
      replace JQ := JQ.below z
      replace JX := JX.below z
      replace JY := JY.below z
      clear z
      have i0 := I.g0
      have i1 := I.g1
      have i2 := I.g2
      have i3 := I.g3
      have i4 := I.g4
      have i5 := I.g5
      have i6 := I.g6
      have i7 := I.g7
      have il := I.lt
      have JC0 := JC.c0
      have JC1 := JC.c1
      have JCl := JC.lt
      have JD0 := JD.c0
      have JD1 := JD.c1
      have JDl := JD.lt
      have JP0 := JP.c0
      have JP1 := JP.c1
      have JPl := JP.lt
      have JQ0 := JQ.c0
      have JQ1 := JQ.c1
      have JQl := JQ.lt
      have JX0 := JX.c0
      have JX1 := JX.c1
      have JXl := JX.lt
      have JY0 := JY.c0
      have JY1 := JY.c1
      have JYl := JY.lt
      go_wp2_with fail
      refine (HN.out _).mono ?_
      rintro e w9 ⟨rfl, z⟩
      clear i0 i1 i2 i3 i4 i5 i6 i7 il JC0 JC1 JCl JD0 JD1 JDl JP0 JP1 JPl JQ0 JQ1 JQl JX0 JX1 JXl JY0 JY1 JYl
      have JM : BC w9 w8.heap.size M := (BC.new (a := M) rfl).below z
      have ba : Below w8.heap.size w8 (w8.alloc (.cells #[.int .u64 (ub M.1), .int .u64 (ub M.2)] 53)) := (Below.refl _ _).alloc (Nat.le_refl _) _
      replace I := I.next ba
      replace JC := JC.below ba
      replace JD := JD.below ba
      replace JP := JP.below ba
      replace JQ := JQ.below ba
      replace JX := JX.below ba
      replace JY := JY.below ba
      clear ba
      replace I := I.next z
      replace JC := JC.below z
      replace JD := JD.below z
      replace JP := JP.below z
      replace JQ := JQ.below z
      replace JX := JX.below z
      replace JY := JY.below z
      clear z
      have i0 := I.g0
      have i1 := I.g1
      have i2 := I.g2
      have i3 := I.g3
      have i4 := I.g4
      have i5 := I.g5
      have i6 := I.g6
      have i7 := I.g7
      have il := I.lt
      have JC0 := JC.c0
      have JC1 := JC.c1
      have JCl := JC.lt
      have JD0 := JD.c0
      have JD1 := JD.c1
      have JDl := JD.lt
      have JP0 := JP.c0
      have JP1 := JP.c1
      have JPl := JP.lt
      have JQ0 := JQ.c0
      have JQ1 := JQ.c1
      have JQl := JQ.lt
      have JX0 := JX.c0
      have JX1 := JX.c1
      have JXl := JX.lt
      have JY0 := JY.c0
      have JY1 := JY.c1
      have JYl := JY.lt
      have JM0 := JM.c0
      have JM1 := JM.c1
      have JMl := JM.lt
      go_wp2_with fail
      refine (HI1.out _).mono ?_
      rintro e w10 ⟨rfl, z⟩
      clear i0 i1 i2 i3 i4 i5 i6 i7 il JC0 JC1 JCl JD0 JD1 JDl JP0 JP1 JPl JQ0 JQ1 JQl JX0 JX1 JXl JY0 JY1 JYl JM0 JM1 JMl
      have JN : BC w10 w9.heap.size N := (BC.new (a := N) rfl).below z
      have ba : Below w9.heap.size w9 (w9.alloc (.cells #[.int .u64 (ub N.1), .int .u64 (ub N.2)] 53)) := (Below.refl _ _).alloc (Nat.le_refl _) _
      replace I := I.next ba
      replace JC := JC.below ba
      replace JD := JD.below ba
      replace JP := JP.below ba
      replace JQ := JQ.below ba
      replace JX := JX.below ba
      replace JY := JY.below ba
      replace JM := JM.below ba
      clear ba
      replace I := I.next z
      replace JC := JC.below z
      replace JD := JD.below z
      replace JP := JP.below z
      replace JQ := JQ.below z
      replace JX := JX.below z
      replace JY := JY.below z
      replace JM := JM.below z
      clear z
      have i0 := I.g0
      have i1 := I.g1
      have i2 := I.g2
      have i3 := I.g3
      have i4 := I.g4
      have i5 := I.g5
      have i6 := I.g6
      have i7 := I.g7
      have il := I.lt
      have JC0 := JC.c0
      have JC1 := JC.c1
      have JCl := JC.lt
      have JD0 := JD.c0
      have JD1 := JD.c1
      have JDl := JD.lt
      have JP0 := JP.c0
      have JP1 := JP.c1
      have JPl := JP.lt
      have JQ0 := JQ.c0
      have JQ1 := JQ.c1
      have JQl := JQ.lt
      have JX0 := JX.c0
      have JX1 := JX.c1
      have JXl := JX.lt
      have JY0 := JY.c0
      have JY1 := JY.c1
      have JYl := JY.lt
      have JM0 := JM.c0
      have JM1 := JM.c1
      have JMl := JM.lt
      have JN0 := JN.c0
      have JN1 := JN.c1
      have JNl := JN.lt
      go_wp2_with fail
      refine (HI2.out _).mono ?_
      rintro e w11 ⟨rfl, z⟩
      clear i0 i1 i2 i3 i4 i5 i6 i7 il JC0 JC1 JCl JD0 JD1 JDl JP0 JP1 JPl JQ0 JQ1 JQl JX0 JX1 JXl JY0 JY1 JYl JM0 JM1 JMl JN0 JN1 JNl
      replace I := I.next z
      replace JC := JC.below z
      replace JD := JD.below z
      replace JP := JP.below z
      replace JQ := JQ.below z
      replace JX := JX.below z
      replace JY := JY.below z
      replace JM := JM.below z
      replace JN := JN.below z
      clear z
      have i0 := I.g0
      have i1 := I.g1
      have i2 := I.g2
      have i3 := I.g3
      have i4 := I.g4
      have i5 := I.g5
      have i6 := I.g6
      have i7 := I.g7
      have il := I.lt
      have JC0 := JC.c0
      have JC1 := JC.c1
      have JCl := JC.lt
      have JD0 := JD.c0
      have JD1 := JD.c1
      have JDl := JD.lt
      have JP0 := JP.c0
      have JP1 := JP.c1
      have JPl := JP.lt
      have JQ0 := JQ.c0
      have JQ1 := JQ.c1
      have JQl := JQ.lt
      have JX0 := JX.c0
      have JX1 := JX.c1
      have JXl := JX.lt
      have JY0 := JY.c0
      have JY1 := JY.c1
      have JYl := JY.lt
      have JM0 := JM.c0
      have JM1 := JM.c1
      have JMl := JM.lt
      have JN0 := JN.c0
      have JN1 := JN.c1
      have JNl := JN.lt
      go_wp2_with fail
      refine (HI3.out _).mono ?_
      rintro e w12 ⟨rfl, z⟩
      clear i0 i1 i2 i3 i4 i5 i6 i7 il JC0 JC1 JCl JD0 JD1 JDl JP0 JP1 JPl JQ0 JQ1 JQl JX0 JX1 JXl JY0 JY1 JYl JM0 JM1 JMl JN0 JN1 JNl
      replace I := I.next z
      replace JC := JC.below z
      replace JD := JD.below z
      replace JP := JP.below z
      replace JQ := JQ.below z
      replace JX := JX.below z
      replace JY := JY.below z
      replace JM := JM.below z
      replace JN := JN.below z
      clear z
      have i0 := I.g0
      have i1 := I.g1
      have i2 := I.g2
      have i3 := I.g3
      have i4 := I.g4
      have i5 := I.g5
      have i6 := I.g6
      have i7 := I.g7
      have il := I.lt
      have JC0 := JC.c0
      have JC1 := JC.c1
      have JCl := JC.lt
      have JD0 := JD.c0
      have JD1 := JD.c1
      have JDl := JD.lt
      have JP0 := JP.c0
      have JP1 := JP.c1
      have JPl := JP.lt
      have JQ0 := JQ.c0
      have JQ1 := JQ.c1
      have JQl := JQ.lt
      have JX0 := JX.c0
      have JX1 := JX.c1
      have JXl := JX.lt
      have JY0 := JY.c0
      have JY1 := JY.c1
      have JYl := JY.lt
      have JM0 := JM.c0
      have JM1 := JM.c1
      have JMl := JM.lt
      have JN0 := JN.c0
      have JN1 := JN.c1
      have JNl := JN.lt
      go_wp2_with fail
      clear i0 i1 i2 i3 i4 i5 i6 i7 il JC0 JC1 JCl JD0 JD1 JDl JP0 JP1 JPl JQ0 JQ1 JQl JX0 JX1 JXl JY0 JY1 JYl JM0 JM1 JMl JN0 JN1 JNl
      have p0 := I.g2
      have p1 := I.g3
      have p2 := I.g4
      have p3 := I.g5
      have p4 := JP.c0
      have p5 := JP.c1
      have p6 := JQ.c0
      have p7 := JQ.c1
      have HB0 := I.bel
      clear I JC JD JP JQ JX JY JM JN
      go_region_held3 (fun w' => w'.cell? ⟨w.heap.size, 2, none⟩ = some (.int .u64 (ub A.1)) ∧ w'.cell? ⟨w.heap.size, 3, none⟩ = some (.int .u64 (ub A.2)) ∧ w'.cell? ⟨w.heap.size, 4, none⟩ = some (.int .u64 (ub B.1)) ∧ w'.cell? ⟨w.heap.size, 5, none⟩ = some (.int .u64 (ub B.2)) ∧ w'.cell? ⟨w3.heap.size, 0, none⟩ = some (.int .u64 (ub P.1)) ∧ w'.cell? ⟨w3.heap.size, 1, none⟩ = some (.int .u64 (ub P.2)) ∧ w'.cell? ⟨w4.heap.size, 0, none⟩ = some (.int .u64 (ub Q.1)) ∧ w'.cell? ⟨w4.heap.size, 1, none⟩ = some (.int .u64 (ub Q.2)) ∧ Below w.heap.size w w')
        (first
          | (go_split_ands; exact ⟨by with_reducible assumption, by with_reducible assumption, by with_reducible assumption, by with_reducible assumption, by with_reducible assumption, by with_reducible assumption, by with_reducible assumption, by with_reducible assumption, by with_reducible assumption⟩)
          | exact ⟨cn bq (by with_reducible assumption), cn bq (by with_reducible assumption), cn bq (by with_reducible assumption), cn bq (by with_reducible assumption), cn bq (by with_reducible assumption), cn bq (by with_reducible assumption), cn bq (by with_reducible assumption), cn bq (by with_reducible assumption), Below.trans (by with_reducible assumption) (bq.mono (Below.size (by with_reducible assumption)))⟩
          | exact ⟨cn (below_dr w12) p0, cn (below_dr w12) p1, cn (below_dr w12) p2, cn (below_dr w12) p3, cn (below_dr w12) p4, cn (below_dr w12) p5, cn (below_dr w12) p6, cn (below_dr w12) p7, HB0.drew⟩)
        (first | (go_at_call 44; go_split_ands; (with_reducible refine (HIa.out _).mono ?_); rintro e wq ⟨rfl, bq⟩) | (go_at_call 44; go_split_ands; (with_reducible refine (HIb.out _).mono ?_); rintro e wq ⟨rfl, bq⟩) | (go_at_call 50; go_split_ands; (with_reducible refine (HJ1.out _).mono ?_); rintro e wq ⟨rfl, bq⟩) | (go_at_call 50; go_split_ands; (with_reducible refine (HJ2.out _).mono ?_); rintro e wq ⟨rfl, bq⟩) | (go_at_call 44; go_split_ands; (with_reducible refine (HIj.out _).mono ?_); rintro e wq ⟨rfl, bq⟩) | (go_at_call 52; go_split_ands; (with_reducible refine (HK1.out _).mono ?_); rintro e wq ⟨rfl, bq⟩) | (go_at_call 52; go_split_ands; (with_reducible refine (HK2.out _).mono ?_); rintro e wq ⟨rfl, bq⟩) | (go_at_call 44; go_split_ands; (with_reducible refine (HIk.out _).mono ?_); rintro e wq ⟨rfl, bq⟩) | (go_at_call 47; go_split_ands; (with_reducible refine (HW.out _).mono ?_); rintro e wq ⟨rfl, bq⟩))
      go_split_ands
      have HB : Hid (Below w.heap.size w wq) := hid (by with_reducible assumption)
      go_wp2
      go_ret
      exact ⟨rfl, HB.out⟩
    case neg =>
      rw [Bool.eq_false_iff.2 hm] at HM
      clear pm hm HI1 HI2 HI3
      generalize meetS A B = M at *
      generalize meetS P Q = N at *
      generalize mayS (meetP P Q) = b9 at *
      replace HM := hid HM
      replace HN := hid HN
      obtain ⟨I, JC, JD⟩ := gr_start w op c A B X Y C D 72 53 53
      go_enter Try.func13, Try.ntmps13
      go_wp2_with fail
      generalize ((w.alloc (.cells #[.int .i64 op, .bool c, .int .u64 (ub A.1), .int .u64 (ub A.2), .int .u64 (ub B.1), .int .u64 (ub B.2), .int .u64 (ub X), .int .u64 (ub Y)] 72)).alloc (.cells #[.int .u64 (ub C.1), .int .u64 (ub C.2)] 53)).alloc (.cells #[.int .u64 (ub D.1), .int .u64 (ub D.2)] 53) = w0 at I JC JD ⊢
      refine (HA.out _).mono ?_
      rintro e w1 ⟨rfl, z⟩
      replace I := I.next z
      replace JC := JC.below z
      replace JD := JD.below z
      clear z
      have i0 := I.g0
      have i1 := I.g1
      have i2 := I.g2
      have i3 := I.g3
      have i4 := I.g4
      have i5 := I.g5
      have i6 := I.g6
      have i7 := I.g7
      have il := I.lt
      have JC0 := JC.c0
      have JC1 := JC.c1
      have JCl := JC.lt
      have JD0 := JD.c0
      have JD1 := JD.c1
      have JDl := JD.lt
      go_wp2_with fail
      refine (HC.out _).mono ?_
      rintro e w2 ⟨rfl, z⟩
      clear i0 i1 i2 i3 i4 i5 i6 i7 il JC0 JC1 JCl JD0 JD1 JDl
      replace I := I.next z
      replace JC := JC.below z
      replace JD := JD.below z
      clear z
      have i0 := I.g0
      have i1 := I.g1
      have i2 := I.g2
      have i3 := I.g3
      have i4 := I.g4
      have i5 := I.g5
      have i6 := I.g6
      have i7 := I.g7
      have il := I.lt
      have JC0 := JC.c0
      have JC1 := JC.c1
      have JCl := JC.lt
      have JD0 := JD.c0
      have JD1 := JD.c1
      have JDl := JD.lt
      go_wp2_with fail
      refine (HJa.out _).mono ?_
      rintro e w3 ⟨rfl, z⟩
      clear i0 i1 i2 i3 i4 i5 i6 i7 il JC0 JC1 JCl JD0 JD1 JDl
      replace I := I.next z
      replace JC := JC.below z
      replace JD := JD.below z
      clear z
      have i0 := I.g0
      have i1 := I.g1
      have i2 := I.g2
      have i3 := I.g3
      have i4 := I.g4
      have i5 := I.g5
      have i6 := I.g6
      have i7 := I.g7
      have il := I.lt
      have JC0 := JC.c0
      have JC1 := JC.c1
      have JCl := JC.lt
      have JD0 := JD.c0
      have JD1 := JD.c1
      have JDl := JD.lt
      go_wp2_with fail
      refine (HJb.out _).mono ?_
      rintro e w4 ⟨rfl, z⟩
      clear i0 i1 i2 i3 i4 i5 i6 i7 il JC0 JC1 JCl JD0 JD1 JDl
      have JP : BC w4 w3.heap.size P := (BC.new (a := P) rfl).below z
      have ba : Below w3.heap.size w3 (w3.alloc (.cells #[.int .u64 (ub P.1), .int .u64 (ub P.2)] 53)) := (Below.refl _ _).alloc (Nat.le_refl _) _
      replace I := I.next ba
      replace JC := JC.below ba
      replace JD := JD.below ba
      clear ba
      replace I := I.next z
      replace JC := JC.below z
      replace JD := JD.below z
      clear z
      have i0 := I.g0
      have i1 := I.g1
      have i2 := I.g2
      have i3 := I.g3
      have i4 := I.g4
      have i5 := I.g5
      have i6 := I.g6
      have i7 := I.g7
      have il := I.lt
      have JC0 := JC.c0
      have JC1 := JC.c1
      have JCl := JC.lt
      have JD0 := JD.c0
      have JD1 := JD.c1
      have JDl := JD.lt
      have JP0 := JP.c0
      have JP1 := JP.c1
      have JPl := JP.lt
      go_wp2_with fail
      refine (HX.out _).mono ?_
      rintro e w5 ⟨rfl, z⟩
      clear i0 i1 i2 i3 i4 i5 i6 i7 il JC0 JC1 JCl JD0 JD1 JDl JP0 JP1 JPl
      have JQ : BC w5 w4.heap.size Q := (BC.new (a := Q) rfl).below z
      have ba : Below w4.heap.size w4 (w4.alloc (.cells #[.int .u64 (ub Q.1), .int .u64 (ub Q.2)] 53)) := (Below.refl _ _).alloc (Nat.le_refl _) _
      replace I := I.next ba
      replace JC := JC.below ba
      replace JD := JD.below ba
      replace JP := JP.below ba
      clear ba
      replace I := I.next z
      replace JC := JC.below z
      replace JD := JD.below z
      replace JP := JP.below z
      clear z
      have i0 := I.g0
      have i1 := I.g1
      have i2 := I.g2
      have i3 := I.g3
      have i4 := I.g4
      have i5 := I.g5
      have i6 := I.g6
      have i7 := I.g7
      have il := I.lt
      have JC0 := JC.c0
      have JC1 := JC.c1
      have JCl := JC.lt
      have JD0 := JD.c0
      have JD1 := JD.c1
      have JDl := JD.lt
      have JP0 := JP.c0
      have JP1 := JP.c1
      have JPl := JP.lt
      have JQ0 := JQ.c0
      have JQ1 := JQ.c1
      have JQl := JQ.lt
      go_wp2_with fail
      refine (HY.out _).mono ?_
      rintro e w6 ⟨rfl, z⟩
      clear i0 i1 i2 i3 i4 i5 i6 i7 il JC0 JC1 JCl JD0 JD1 JDl JP0 JP1 JPl JQ0 JQ1 JQl
      have JX : BC w6 w5.heap.size RX := (BC.new (a := RX) rfl).below z
      have ba : Below w5.heap.size w5 (w5.alloc (.cells #[.int .u64 (ub RX.1), .int .u64 (ub RX.2)] 53)) := (Below.refl _ _).alloc (Nat.le_refl _) _
      replace I := I.next ba
      replace JC := JC.below ba
      replace JD := JD.below ba
      replace JP := JP.below ba
      replace JQ := JQ.below ba
      clear ba
      replace I := I.next z
      replace JC := JC.below z
      replace JD := JD.below z
      replace JP := JP.below z
      replace JQ := JQ.below z
      clear z
      have i0 := I.g0
      have i1 := I.g1
      have i2 := I.g2
      have i3 := I.g3
      have i4 := I.g4
      have i5 := I.g5
      have i6 := I.g6
      have i7 := I.g7
      have il := I.lt
      have JC0 := JC.c0
      have JC1 := JC.c1
      have JCl := JC.lt
      have JD0 := JD.c0
      have JD1 := JD.c1
      have JDl := JD.lt
      have JP0 := JP.c0
      have JP1 := JP.c1
      have JPl := JP.lt
      have JQ0 := JQ.c0
      have JQ1 := JQ.c1
      have JQl := JQ.lt
      have JX0 := JX.c0
      have JX1 := JX.c1
      have JXl := JX.lt
      go_wp2_with fail
      refine (HI0.out _).mono ?_
      rintro e w7 ⟨rfl, z⟩
      clear i0 i1 i2 i3 i4 i5 i6 i7 il JC0 JC1 JCl JD0 JD1 JDl JP0 JP1 JPl JQ0 JQ1 JQl JX0 JX1 JXl
      have JY : BC w7 w6.heap.size RY := (BC.new (a := RY) rfl).below z
      have ba : Below w6.heap.size w6 (w6.alloc (.cells #[.int .u64 (ub RY.1), .int .u64 (ub RY.2)] 53)) := (Below.refl _ _).alloc (Nat.le_refl _) _
      replace I := I.next ba
      replace JC := JC.below ba
      replace JD := JD.below ba
      replace JP := JP.below ba
      replace JQ := JQ.below ba
      replace JX := JX.below ba
      clear ba
      replace I := I.next z
      replace JC := JC.below z
      replace JD := JD.below z
      replace JP := JP.below z
      replace JQ := JQ.below z
      replace JX := JX.below z
      clear z
      have i0 := I.g0
      have i1 := I.g1
      have i2 := I.g2
      have i3 := I.g3
      have i4 := I.g4
      have i5 := I.g5
      have i6 := I.g6
      have i7 := I.g7
      have il := I.lt
      have JC0 := JC.c0
      have JC1 := JC.c1
      have JCl := JC.lt
      have JD0 := JD.c0
      have JD1 := JD.c1
      have JDl := JD.lt
      have JP0 := JP.c0
      have JP1 := JP.c1
      have JPl := JP.lt
      have JQ0 := JQ.c0
      have JQ1 := JQ.c1
      have JQl := JQ.lt
      have JX0 := JX.c0
      have JX1 := JX.c1
      have JXl := JX.lt
      have JY0 := JY.c0
      have JY1 := JY.c1
      have JYl := JY.lt
      go_wp2_with fail
      refine (HM.out _).mono ?_
      rintro e w8 ⟨rfl, z⟩
      clear i0 i1 i2 i3 i4 i5 i6 i7 il JC0 JC1 JCl JD0 JD1 JDl JP0 JP1 JPl JQ0 JQ1 JQl JX0 JX1 JXl JY0 JY1 JYl
      replace I := I.next z
      replace JC := JC.below z
      replace JD := JD.below z
      replace JP := JP.below z
      replace JQ := JQ.below z
      replace JX := JX.below z
      replace JY := JY.below z
      clear z
      have i0 := I.g0
      have i1 := I.g1
      have i2 := I.g2
      have i3 := I.g3
      have i4 := I.g4
      have i5 := I.g5
      have i6 := I.g6
      have i7 := I.g7
      have il := I.lt
      have JC0 := JC.c0
      have JC1 := JC.c1
      have JCl := JC.lt
      have JD0 := JD.c0
      have JD1 := JD.c1
      have JDl := JD.lt
      have JP0 := JP.c0
      have JP1 := JP.c1
      have JPl := JP.lt
      have JQ0 := JQ.c0
      have JQ1 := JQ.c1
      have JQl := JQ.lt
      have JX0 := JX.c0
      have JX1 := JX.c1
      have JXl := JX.lt
      have JY0 := JY.c0
      have JY1 := JY.c1
      have JYl := JY.lt
      go_wp2_with fail
      refine (HN.out _).mono ?_
      rintro e w9 ⟨rfl, z⟩
      clear i0 i1 i2 i3 i4 i5 i6 i7 il JC0 JC1 JCl JD0 JD1 JDl JP0 JP1 JPl JQ0 JQ1 JQl JX0 JX1 JXl JY0 JY1 JYl
      have JM : BC w9 w8.heap.size M := (BC.new (a := M) rfl).below z
      have ba : Below w8.heap.size w8 (w8.alloc (.cells #[.int .u64 (ub M.1), .int .u64 (ub M.2)] 53)) := (Below.refl _ _).alloc (Nat.le_refl _) _
      replace I := I.next ba
      replace JC := JC.below ba
      replace JD := JD.below ba
      replace JP := JP.below ba
      replace JQ := JQ.below ba
      replace JX := JX.below ba
      replace JY := JY.below ba
      clear ba
      replace I := I.next z
      replace JC := JC.below z
      replace JD := JD.below z
      replace JP := JP.below z
      replace JQ := JQ.below z
      replace JX := JX.below z
      replace JY := JY.below z
      clear z
      have i0 := I.g0
      have i1 := I.g1
      have i2 := I.g2
      have i3 := I.g3
      have i4 := I.g4
      have i5 := I.g5
      have i6 := I.g6
      have i7 := I.g7
      have il := I.lt
      have JC0 := JC.c0
      have JC1 := JC.c1
      have JCl := JC.lt
      have JD0 := JD.c0
      have JD1 := JD.c1
      have JDl := JD.lt
      have JP0 := JP.c0
      have JP1 := JP.c1
      have JPl := JP.lt
      have JQ0 := JQ.c0
      have JQ1 := JQ.c1
      have JQl := JQ.lt
      have JX0 := JX.c0
      have JX1 := JX.c1
      have JXl := JX.lt
      have JY0 := JY.c0
      have JY1 := JY.c1
      have JYl := JY.lt
      have JM0 := JM.c0
      have JM1 := JM.c1
      have JMl := JM.lt
      go_wp2_with fail
      have JN : BC (w9.alloc (.cells #[.int .u64 (ub N.1), .int .u64 (ub N.2)] 53)) w9.heap.size N := BC.new rfl
      have ba : Below w9.heap.size w9 (w9.alloc (.cells #[.int .u64 (ub N.1), .int .u64 (ub N.2)] 53)) := (Below.refl _ _).alloc (Nat.le_refl _) _
      clear i0 i1 i2 i3 i4 i5 i6 i7 il JC0 JC1 JCl JD0 JD1 JDl JP0 JP1 JPl JQ0 JQ1 JQl JX0 JX1 JXl JY0 JY1 JYl JM0 JM1 JMl
      replace I := I.next ba
      replace JC := JC.below ba
      replace JD := JD.below ba
      replace JP := JP.below ba
      replace JQ := JQ.below ba
      replace JX := JX.below ba
      replace JY := JY.below ba
      replace JM := JM.below ba
      clear ba
      generalize w9.alloc (.cells #[.int .u64 (ub N.1), .int .u64 (ub N.2)] 53) = u9 at *
      have p0 := I.g2
      have p1 := I.g3
      have p2 := I.g4
      have p3 := I.g5
      have p4 := JP.c0
      have p5 := JP.c1
      have p6 := JQ.c0
      have p7 := JQ.c1
      have HB0 := I.bel
      clear I JC JD JP JQ JX JY JM JN
      go_region_held3 (fun w' => w'.cell? ⟨w.heap.size, 2, none⟩ = some (.int .u64 (ub A.1)) ∧ w'.cell? ⟨w.heap.size, 3, none⟩ = some (.int .u64 (ub A.2)) ∧ w'.cell? ⟨w.heap.size, 4, none⟩ = some (.int .u64 (ub B.1)) ∧ w'.cell? ⟨w.heap.size, 5, none⟩ = some (.int .u64 (ub B.2)) ∧ w'.cell? ⟨w3.heap.size, 0, none⟩ = some (.int .u64 (ub P.1)) ∧ w'.cell? ⟨w3.heap.size, 1, none⟩ = some (.int .u64 (ub P.2)) ∧ w'.cell? ⟨w4.heap.size, 0, none⟩ = some (.int .u64 (ub Q.1)) ∧ w'.cell? ⟨w4.heap.size, 1, none⟩ = some (.int .u64 (ub Q.2)) ∧ Below w.heap.size w w')
        (first
          | (go_split_ands; exact ⟨by with_reducible assumption, by with_reducible assumption, by with_reducible assumption, by with_reducible assumption, by with_reducible assumption, by with_reducible assumption, by with_reducible assumption, by with_reducible assumption, by with_reducible assumption⟩)
          | exact ⟨cn bq (by with_reducible assumption), cn bq (by with_reducible assumption), cn bq (by with_reducible assumption), cn bq (by with_reducible assumption), cn bq (by with_reducible assumption), cn bq (by with_reducible assumption), cn bq (by with_reducible assumption), cn bq (by with_reducible assumption), Below.trans (by with_reducible assumption) (bq.mono (Below.size (by with_reducible assumption)))⟩
          | exact ⟨cn (below_dr u9) p0, cn (below_dr u9) p1, cn (below_dr u9) p2, cn (below_dr u9) p3, cn (below_dr u9) p4, cn (below_dr u9) p5, cn (below_dr u9) p6, cn (below_dr u9) p7, HB0.drew⟩)
        (first | (go_at_call 44; go_split_ands; (with_reducible refine (HIa.out _).mono ?_); rintro e wq ⟨rfl, bq⟩) | (go_at_call 44; go_split_ands; (with_reducible refine (HIb.out _).mono ?_); rintro e wq ⟨rfl, bq⟩) | (go_at_call 50; go_split_ands; (with_reducible refine (HJ1.out _).mono ?_); rintro e wq ⟨rfl, bq⟩) | (go_at_call 50; go_split_ands; (with_reducible refine (HJ2.out _).mono ?_); rintro e wq ⟨rfl, bq⟩) | (go_at_call 44; go_split_ands; (with_reducible refine (HIj.out _).mono ?_); rintro e wq ⟨rfl, bq⟩) | (go_at_call 52; go_split_ands; (with_reducible refine (HK1.out _).mono ?_); rintro e wq ⟨rfl, bq⟩) | (go_at_call 52; go_split_ands; (with_reducible refine (HK2.out _).mono ?_); rintro e wq ⟨rfl, bq⟩) | (go_at_call 44; go_split_ands; (with_reducible refine (HIk.out _).mono ?_); rintro e wq ⟨rfl, bq⟩) | (go_at_call 47; go_split_ands; (with_reducible refine (HW.out _).mono ?_); rintro e wq ⟨rfl, bq⟩))
      go_split_ands
      have HB : Hid (Below w.heap.size w wq) := hid (by with_reducible assumption)
      go_wp2
      go_ret
      exact ⟨rfl, HB.out⟩
  case neg =>
    have hok2 := pn hok
    rw [show aluE op A B = 1 from if_neg hok] at HX
    rw [show aluE op P Q = 1 from if_neg hok2] at HY
    clear pa pn hok hok2 HI0
    generalize aluT op c A B = RX at *
    generalize aluT op c P Q = RY at *
    replace HX := hid HX
    replace HY := hid HY
    by_cases hm : mayS (meetP A B) = true
    case pos =>
      obtain ⟨m1, m2, m3, m4⟩ := pm hm
      rw [hm] at HM
      rw [m1] at HN
      rw [m2] at HI1
      rw [m3] at HI2
      rw [m4] at HI3
      clear pm hm m1 m2 m3 m4
      generalize meetS A B = M at *
      generalize meetS P Q = N at *
      replace HM := hid HM
      replace HN := hid HN
      replace HI1 := hid HI1
      replace HI2 := hid HI2
      replace HI3 := hid HI3
      obtain ⟨I, JC, JD⟩ := gr_start w op c A B X Y C D 72 53 53
      go_enter Try.func13, Try.ntmps13
      go_wp2_with fail
      generalize ((w.alloc (.cells #[.int .i64 op, .bool c, .int .u64 (ub A.1), .int .u64 (ub A.2), .int .u64 (ub B.1), .int .u64 (ub B.2), .int .u64 (ub X), .int .u64 (ub Y)] 72)).alloc (.cells #[.int .u64 (ub C.1), .int .u64 (ub C.2)] 53)).alloc (.cells #[.int .u64 (ub D.1), .int .u64 (ub D.2)] 53) = w0 at I JC JD ⊢
      refine (HA.out _).mono ?_
      rintro e w1 ⟨rfl, z⟩
      replace I := I.next z
      replace JC := JC.below z
      replace JD := JD.below z
      clear z
      have i0 := I.g0
      have i1 := I.g1
      have i2 := I.g2
      have i3 := I.g3
      have i4 := I.g4
      have i5 := I.g5
      have i6 := I.g6
      have i7 := I.g7
      have il := I.lt
      have JC0 := JC.c0
      have JC1 := JC.c1
      have JCl := JC.lt
      have JD0 := JD.c0
      have JD1 := JD.c1
      have JDl := JD.lt
      go_wp2_with fail
      refine (HC.out _).mono ?_
      rintro e w2 ⟨rfl, z⟩
      clear i0 i1 i2 i3 i4 i5 i6 i7 il JC0 JC1 JCl JD0 JD1 JDl
      replace I := I.next z
      replace JC := JC.below z
      replace JD := JD.below z
      clear z
      have i0 := I.g0
      have i1 := I.g1
      have i2 := I.g2
      have i3 := I.g3
      have i4 := I.g4
      have i5 := I.g5
      have i6 := I.g6
      have i7 := I.g7
      have il := I.lt
      have JC0 := JC.c0
      have JC1 := JC.c1
      have JCl := JC.lt
      have JD0 := JD.c0
      have JD1 := JD.c1
      have JDl := JD.lt
      go_wp2_with fail
      refine (HJa.out _).mono ?_
      rintro e w3 ⟨rfl, z⟩
      clear i0 i1 i2 i3 i4 i5 i6 i7 il JC0 JC1 JCl JD0 JD1 JDl
      replace I := I.next z
      replace JC := JC.below z
      replace JD := JD.below z
      clear z
      have i0 := I.g0
      have i1 := I.g1
      have i2 := I.g2
      have i3 := I.g3
      have i4 := I.g4
      have i5 := I.g5
      have i6 := I.g6
      have i7 := I.g7
      have il := I.lt
      have JC0 := JC.c0
      have JC1 := JC.c1
      have JCl := JC.lt
      have JD0 := JD.c0
      have JD1 := JD.c1
      have JDl := JD.lt
      go_wp2_with fail
      refine (HJb.out _).mono ?_
      rintro e w4 ⟨rfl, z⟩
      clear i0 i1 i2 i3 i4 i5 i6 i7 il JC0 JC1 JCl JD0 JD1 JDl
      have JP : BC w4 w3.heap.size P := (BC.new (a := P) rfl).below z
      have ba : Below w3.heap.size w3 (w3.alloc (.cells #[.int .u64 (ub P.1), .int .u64 (ub P.2)] 53)) := (Below.refl _ _).alloc (Nat.le_refl _) _
      replace I := I.next ba
      replace JC := JC.below ba
      replace JD := JD.below ba
      clear ba
      replace I := I.next z
      replace JC := JC.below z
      replace JD := JD.below z
      clear z
      have i0 := I.g0
      have i1 := I.g1
      have i2 := I.g2
      have i3 := I.g3
      have i4 := I.g4
      have i5 := I.g5
      have i6 := I.g6
      have i7 := I.g7
      have il := I.lt
      have JC0 := JC.c0
      have JC1 := JC.c1
      have JCl := JC.lt
      have JD0 := JD.c0
      have JD1 := JD.c1
      have JDl := JD.lt
      have JP0 := JP.c0
      have JP1 := JP.c1
      have JPl := JP.lt
      go_wp2_with fail
      refine (HX.out _).mono ?_
      rintro e w5 ⟨rfl, z⟩
      clear i0 i1 i2 i3 i4 i5 i6 i7 il JC0 JC1 JCl JD0 JD1 JDl JP0 JP1 JPl
      have JQ : BC w5 w4.heap.size Q := (BC.new (a := Q) rfl).below z
      have ba : Below w4.heap.size w4 (w4.alloc (.cells #[.int .u64 (ub Q.1), .int .u64 (ub Q.2)] 53)) := (Below.refl _ _).alloc (Nat.le_refl _) _
      replace I := I.next ba
      replace JC := JC.below ba
      replace JD := JD.below ba
      replace JP := JP.below ba
      clear ba
      replace I := I.next z
      replace JC := JC.below z
      replace JD := JD.below z
      replace JP := JP.below z
      clear z
      have i0 := I.g0
      have i1 := I.g1
      have i2 := I.g2
      have i3 := I.g3
      have i4 := I.g4
      have i5 := I.g5
      have i6 := I.g6
      have i7 := I.g7
      have il := I.lt
      have JC0 := JC.c0
      have JC1 := JC.c1
      have JCl := JC.lt
      have JD0 := JD.c0
      have JD1 := JD.c1
      have JDl := JD.lt
      have JP0 := JP.c0
      have JP1 := JP.c1
      have JPl := JP.lt
      have JQ0 := JQ.c0
      have JQ1 := JQ.c1
      have JQl := JQ.lt
      go_wp2_with fail
      refine (HY.out _).mono ?_
      rintro e w6 ⟨rfl, z⟩
      clear i0 i1 i2 i3 i4 i5 i6 i7 il JC0 JC1 JCl JD0 JD1 JDl JP0 JP1 JPl JQ0 JQ1 JQl
      have JX : BC w6 w5.heap.size RX := (BC.new (a := RX) rfl).below z
      have ba : Below w5.heap.size w5 (w5.alloc (.cells #[.int .u64 (ub RX.1), .int .u64 (ub RX.2)] 53)) := (Below.refl _ _).alloc (Nat.le_refl _) _
      replace I := I.next ba
      replace JC := JC.below ba
      replace JD := JD.below ba
      replace JP := JP.below ba
      replace JQ := JQ.below ba
      clear ba
      replace I := I.next z
      replace JC := JC.below z
      replace JD := JD.below z
      replace JP := JP.below z
      replace JQ := JQ.below z
      clear z
      have i0 := I.g0
      have i1 := I.g1
      have i2 := I.g2
      have i3 := I.g3
      have i4 := I.g4
      have i5 := I.g5
      have i6 := I.g6
      have i7 := I.g7
      have il := I.lt
      have JC0 := JC.c0
      have JC1 := JC.c1
      have JCl := JC.lt
      have JD0 := JD.c0
      have JD1 := JD.c1
      have JDl := JD.lt
      have JP0 := JP.c0
      have JP1 := JP.c1
      have JPl := JP.lt
      have JQ0 := JQ.c0
      have JQ1 := JQ.c1
      have JQl := JQ.lt
      have JX0 := JX.c0
      have JX1 := JX.c1
      have JXl := JX.lt
      go_wp2_with fail
      refine (HM.out _).mono ?_
      rintro e w7 ⟨rfl, z⟩
      clear i0 i1 i2 i3 i4 i5 i6 i7 il JC0 JC1 JCl JD0 JD1 JDl JP0 JP1 JPl JQ0 JQ1 JQl JX0 JX1 JXl
      have JY : BC w7 w6.heap.size RY := (BC.new (a := RY) rfl).below z
      have ba : Below w6.heap.size w6 (w6.alloc (.cells #[.int .u64 (ub RY.1), .int .u64 (ub RY.2)] 53)) := (Below.refl _ _).alloc (Nat.le_refl _) _
      replace I := I.next ba
      replace JC := JC.below ba
      replace JD := JD.below ba
      replace JP := JP.below ba
      replace JQ := JQ.below ba
      replace JX := JX.below ba
      clear ba
      replace I := I.next z
      replace JC := JC.below z
      replace JD := JD.below z
      replace JP := JP.below z
      replace JQ := JQ.below z
      replace JX := JX.below z
      clear z
      have i0 := I.g0
      have i1 := I.g1
      have i2 := I.g2
      have i3 := I.g3
      have i4 := I.g4
      have i5 := I.g5
      have i6 := I.g6
      have i7 := I.g7
      have il := I.lt
      have JC0 := JC.c0
      have JC1 := JC.c1
      have JCl := JC.lt
      have JD0 := JD.c0
      have JD1 := JD.c1
      have JDl := JD.lt
      have JP0 := JP.c0
      have JP1 := JP.c1
      have JPl := JP.lt
      have JQ0 := JQ.c0
      have JQ1 := JQ.c1
      have JQl := JQ.lt
      have JX0 := JX.c0
      have JX1 := JX.c1
      have JXl := JX.lt
      have JY0 := JY.c0
      have JY1 := JY.c1
      have JYl := JY.lt
      go_wp2_with fail
      refine (HN.out _).mono ?_
      rintro e w8 ⟨rfl, z⟩
      clear i0 i1 i2 i3 i4 i5 i6 i7 il JC0 JC1 JCl JD0 JD1 JDl JP0 JP1 JPl JQ0 JQ1 JQl JX0 JX1 JXl JY0 JY1 JYl
      have JM : BC w8 w7.heap.size M := (BC.new (a := M) rfl).below z
      have ba : Below w7.heap.size w7 (w7.alloc (.cells #[.int .u64 (ub M.1), .int .u64 (ub M.2)] 53)) := (Below.refl _ _).alloc (Nat.le_refl _) _
      replace I := I.next ba
      replace JC := JC.below ba
      replace JD := JD.below ba
      replace JP := JP.below ba
      replace JQ := JQ.below ba
      replace JX := JX.below ba
      replace JY := JY.below ba
      clear ba
      replace I := I.next z
      replace JC := JC.below z
      replace JD := JD.below z
      replace JP := JP.below z
      replace JQ := JQ.below z
      replace JX := JX.below z
      replace JY := JY.below z
      clear z
      have i0 := I.g0
      have i1 := I.g1
      have i2 := I.g2
      have i3 := I.g3
      have i4 := I.g4
      have i5 := I.g5
      have i6 := I.g6
      have i7 := I.g7
      have il := I.lt
      have JC0 := JC.c0
      have JC1 := JC.c1
      have JCl := JC.lt
      have JD0 := JD.c0
      have JD1 := JD.c1
      have JDl := JD.lt
      have JP0 := JP.c0
      have JP1 := JP.c1
      have JPl := JP.lt
      have JQ0 := JQ.c0
      have JQ1 := JQ.c1
      have JQl := JQ.lt
      have JX0 := JX.c0
      have JX1 := JX.c1
      have JXl := JX.lt
      have JY0 := JY.c0
      have JY1 := JY.c1
      have JYl := JY.lt
      have JM0 := JM.c0
      have JM1 := JM.c1
      have JMl := JM.lt
      go_wp2_with fail
      refine (HI1.out _).mono ?_
      rintro e w9 ⟨rfl, z⟩
      clear i0 i1 i2 i3 i4 i5 i6 i7 il JC0 JC1 JCl JD0 JD1 JDl JP0 JP1 JPl JQ0 JQ1 JQl JX0 JX1 JXl JY0 JY1 JYl JM0 JM1 JMl
      have JN : BC w9 w8.heap.size N := (BC.new (a := N) rfl).below z
      have ba : Below w8.heap.size w8 (w8.alloc (.cells #[.int .u64 (ub N.1), .int .u64 (ub N.2)] 53)) := (Below.refl _ _).alloc (Nat.le_refl _) _
      replace I := I.next ba
      replace JC := JC.below ba
      replace JD := JD.below ba
      replace JP := JP.below ba
      replace JQ := JQ.below ba
      replace JX := JX.below ba
      replace JY := JY.below ba
      replace JM := JM.below ba
      clear ba
      replace I := I.next z
      replace JC := JC.below z
      replace JD := JD.below z
      replace JP := JP.below z
      replace JQ := JQ.below z
      replace JX := JX.below z
      replace JY := JY.below z
      replace JM := JM.below z
      clear z
      have i0 := I.g0
      have i1 := I.g1
      have i2 := I.g2
      have i3 := I.g3
      have i4 := I.g4
      have i5 := I.g5
      have i6 := I.g6
      have i7 := I.g7
      have il := I.lt
      have JC0 := JC.c0
      have JC1 := JC.c1
      have JCl := JC.lt
      have JD0 := JD.c0
      have JD1 := JD.c1
      have JDl := JD.lt
      have JP0 := JP.c0
      have JP1 := JP.c1
      have JPl := JP.lt
      have JQ0 := JQ.c0
      have JQ1 := JQ.c1
      have JQl := JQ.lt
      have JX0 := JX.c0
      have JX1 := JX.c1
      have JXl := JX.lt
      have JY0 := JY.c0
      have JY1 := JY.c1
      have JYl := JY.lt
      have JM0 := JM.c0
      have JM1 := JM.c1
      have JMl := JM.lt
      have JN0 := JN.c0
      have JN1 := JN.c1
      have JNl := JN.lt
      go_wp2_with fail
      refine (HI2.out _).mono ?_
      rintro e w10 ⟨rfl, z⟩
      clear i0 i1 i2 i3 i4 i5 i6 i7 il JC0 JC1 JCl JD0 JD1 JDl JP0 JP1 JPl JQ0 JQ1 JQl JX0 JX1 JXl JY0 JY1 JYl JM0 JM1 JMl JN0 JN1 JNl
      replace I := I.next z
      replace JC := JC.below z
      replace JD := JD.below z
      replace JP := JP.below z
      replace JQ := JQ.below z
      replace JX := JX.below z
      replace JY := JY.below z
      replace JM := JM.below z
      replace JN := JN.below z
      clear z
      have i0 := I.g0
      have i1 := I.g1
      have i2 := I.g2
      have i3 := I.g3
      have i4 := I.g4
      have i5 := I.g5
      have i6 := I.g6
      have i7 := I.g7
      have il := I.lt
      have JC0 := JC.c0
      have JC1 := JC.c1
      have JCl := JC.lt
      have JD0 := JD.c0
      have JD1 := JD.c1
      have JDl := JD.lt
      have JP0 := JP.c0
      have JP1 := JP.c1
      have JPl := JP.lt
      have JQ0 := JQ.c0
      have JQ1 := JQ.c1
      have JQl := JQ.lt
      have JX0 := JX.c0
      have JX1 := JX.c1
      have JXl := JX.lt
      have JY0 := JY.c0
      have JY1 := JY.c1
      have JYl := JY.lt
      have JM0 := JM.c0
      have JM1 := JM.c1
      have JMl := JM.lt
      have JN0 := JN.c0
      have JN1 := JN.c1
      have JNl := JN.lt
      go_wp2_with fail
      refine (HI3.out _).mono ?_
      rintro e w11 ⟨rfl, z⟩
      clear i0 i1 i2 i3 i4 i5 i6 i7 il JC0 JC1 JCl JD0 JD1 JDl JP0 JP1 JPl JQ0 JQ1 JQl JX0 JX1 JXl JY0 JY1 JYl JM0 JM1 JMl JN0 JN1 JNl
      replace I := I.next z
      replace JC := JC.below z
      replace JD := JD.below z
      replace JP := JP.below z
      replace JQ := JQ.below z
      replace JX := JX.below z
      replace JY := JY.below z
      replace JM := JM.below z
      replace JN := JN.below z
      clear z
      have i0 := I.g0
      have i1 := I.g1
      have i2 := I.g2
      have i3 := I.g3
      have i4 := I.g4
      have i5 := I.g5
      have i6 := I.g6
      have i7 := I.g7
      have il := I.lt
      have JC0 := JC.c0
      have JC1 := JC.c1
      have JCl := JC.lt
      have JD0 := JD.c0
      have JD1 := JD.c1
      have JDl := JD.lt
      have JP0 := JP.c0
      have JP1 := JP.c1
      have JPl := JP.lt
      have JQ0 := JQ.c0
      have JQ1 := JQ.c1
      have JQl := JQ.lt
      have JX0 := JX.c0
      have JX1 := JX.c1
      have JXl := JX.lt
      have JY0 := JY.c0
      have JY1 := JY.c1
      have JYl := JY.lt
      have JM0 := JM.c0
      have JM1 := JM.c1
      have JMl := JM.lt
      have JN0 := JN.c0
      have JN1 := JN.c1
      have JNl := JN.lt
      go_wp2_with fail
      clear i0 i1 i2 i3 i4 i5 i6 i7 il JC0 JC1 JCl JD0 JD1 JDl JP0 JP1 JPl JQ0 JQ1 JQl JX0 JX1 JXl JY0 JY1 JYl JM0 JM1 JMl JN0 JN1 JNl
      have p0 := I.g2
      have p1 := I.g3
      have p2 := I.g4
      have p3 := I.g5
      have p4 := JP.c0
      have p5 := JP.c1
      have p6 := JQ.c0
      have p7 := JQ.c1
      have HB0 := I.bel
      clear I JC JD JP JQ JX JY JM JN
      go_region_held3 (fun w' => w'.cell? ⟨w.heap.size, 2, none⟩ = some (.int .u64 (ub A.1)) ∧ w'.cell? ⟨w.heap.size, 3, none⟩ = some (.int .u64 (ub A.2)) ∧ w'.cell? ⟨w.heap.size, 4, none⟩ = some (.int .u64 (ub B.1)) ∧ w'.cell? ⟨w.heap.size, 5, none⟩ = some (.int .u64 (ub B.2)) ∧ w'.cell? ⟨w3.heap.size, 0, none⟩ = some (.int .u64 (ub P.1)) ∧ w'.cell? ⟨w3.heap.size, 1, none⟩ = some (.int .u64 (ub P.2)) ∧ w'.cell? ⟨w4.heap.size, 0, none⟩ = some (.int .u64 (ub Q.1)) ∧ w'.cell? ⟨w4.heap.size, 1, none⟩ = some (.int .u64 (ub Q.2)) ∧ Below w.heap.size w w')
        (first
          | (go_split_ands; exact ⟨by with_reducible assumption, by with_reducible assumption, by with_reducible assumption, by with_reducible assumption, by with_reducible assumption, by with_reducible assumption, by with_reducible assumption, by with_reducible assumption, by with_reducible assumption⟩)
          | exact ⟨cn bq (by with_reducible assumption), cn bq (by with_reducible assumption), cn bq (by with_reducible assumption), cn bq (by with_reducible assumption), cn bq (by with_reducible assumption), cn bq (by with_reducible assumption), cn bq (by with_reducible assumption), cn bq (by with_reducible assumption), Below.trans (by with_reducible assumption) (bq.mono (Below.size (by with_reducible assumption)))⟩
          | exact ⟨cn (below_dr w11) p0, cn (below_dr w11) p1, cn (below_dr w11) p2, cn (below_dr w11) p3, cn (below_dr w11) p4, cn (below_dr w11) p5, cn (below_dr w11) p6, cn (below_dr w11) p7, HB0.drew⟩)
        (first | (go_at_call 44; go_split_ands; (with_reducible refine (HIa.out _).mono ?_); rintro e wq ⟨rfl, bq⟩) | (go_at_call 44; go_split_ands; (with_reducible refine (HIb.out _).mono ?_); rintro e wq ⟨rfl, bq⟩) | (go_at_call 50; go_split_ands; (with_reducible refine (HJ1.out _).mono ?_); rintro e wq ⟨rfl, bq⟩) | (go_at_call 50; go_split_ands; (with_reducible refine (HJ2.out _).mono ?_); rintro e wq ⟨rfl, bq⟩) | (go_at_call 44; go_split_ands; (with_reducible refine (HIj.out _).mono ?_); rintro e wq ⟨rfl, bq⟩) | (go_at_call 52; go_split_ands; (with_reducible refine (HK1.out _).mono ?_); rintro e wq ⟨rfl, bq⟩) | (go_at_call 52; go_split_ands; (with_reducible refine (HK2.out _).mono ?_); rintro e wq ⟨rfl, bq⟩) | (go_at_call 44; go_split_ands; (with_reducible refine (HIk.out _).mono ?_); rintro e wq ⟨rfl, bq⟩) | (go_at_call 47; go_split_ands; (with_reducible refine (HW.out _).mono ?_); rintro e wq ⟨rfl, bq⟩))
      go_split_ands
      have HB : Hid (Below w.heap.size w wq) := hid (by with_reducible assumption)
      go_wp2
      go_ret
      exact ⟨rfl, HB.out⟩
    case neg =>
      rw [Bool.eq_false_iff.2 hm] at HM
      clear pm hm HI1 HI2 HI3
      generalize meetS A B = M at *
      generalize meetS P Q = N at *
      generalize mayS (meetP P Q) = b9 at *
      replace HM := hid HM
      replace HN := hid HN
      obtain ⟨I, JC, JD⟩ := gr_start w op c A B X Y C D 72 53 53
      go_enter Try.func13, Try.ntmps13
      go_wp2_with fail
      generalize ((w.alloc (.cells #[.int .i64 op, .bool c, .int .u64 (ub A.1), .int .u64 (ub A.2), .int .u64 (ub B.1), .int .u64 (ub B.2), .int .u64 (ub X), .int .u64 (ub Y)] 72)).alloc (.cells #[.int .u64 (ub C.1), .int .u64 (ub C.2)] 53)).alloc (.cells #[.int .u64 (ub D.1), .int .u64 (ub D.2)] 53) = w0 at I JC JD ⊢
      refine (HA.out _).mono ?_
      rintro e w1 ⟨rfl, z⟩
      replace I := I.next z
      replace JC := JC.below z
      replace JD := JD.below z
      clear z
      have i0 := I.g0
      have i1 := I.g1
      have i2 := I.g2
      have i3 := I.g3
      have i4 := I.g4
      have i5 := I.g5
      have i6 := I.g6
      have i7 := I.g7
      have il := I.lt
      have JC0 := JC.c0
      have JC1 := JC.c1
      have JCl := JC.lt
      have JD0 := JD.c0
      have JD1 := JD.c1
      have JDl := JD.lt
      go_wp2_with fail
      refine (HC.out _).mono ?_
      rintro e w2 ⟨rfl, z⟩
      clear i0 i1 i2 i3 i4 i5 i6 i7 il JC0 JC1 JCl JD0 JD1 JDl
      replace I := I.next z
      replace JC := JC.below z
      replace JD := JD.below z
      clear z
      have i0 := I.g0
      have i1 := I.g1
      have i2 := I.g2
      have i3 := I.g3
      have i4 := I.g4
      have i5 := I.g5
      have i6 := I.g6
      have i7 := I.g7
      have il := I.lt
      have JC0 := JC.c0
      have JC1 := JC.c1
      have JCl := JC.lt
      have JD0 := JD.c0
      have JD1 := JD.c1
      have JDl := JD.lt
      go_wp2_with fail
      refine (HJa.out _).mono ?_
      rintro e w3 ⟨rfl, z⟩
      clear i0 i1 i2 i3 i4 i5 i6 i7 il JC0 JC1 JCl JD0 JD1 JDl
      replace I := I.next z
      replace JC := JC.below z
      replace JD := JD.below z
      clear z
      have i0 := I.g0
      have i1 := I.g1
      have i2 := I.g2
      have i3 := I.g3
      have i4 := I.g4
      have i5 := I.g5
      have i6 := I.g6
      have i7 := I.g7
      have il := I.lt
      have JC0 := JC.c0
      have JC1 := JC.c1
      have JCl := JC.lt
      have JD0 := JD.c0
      have JD1 := JD.c1
      have JDl := JD.lt
      go_wp2_with fail
      refine (HJb.out _).mono ?_
      rintro e w4 ⟨rfl, z⟩
      clear i0 i1 i2 i3 i4 i5 i6 i7 il JC0 JC1 JCl JD0 JD1 JDl
      have JP : BC w4 w3.heap.size P := (BC.new (a := P) rfl).below z
      have ba : Below w3.heap.size w3 (w3.alloc (.cells #[.int .u64 (ub P.1), .int .u64 (ub P.2)] 53)) := (Below.refl _ _).alloc (Nat.le_refl _) _
      replace I := I.next ba
      replace JC := JC.below ba
      replace JD := JD.below ba
      clear ba
      replace I := I.next z
      replace JC := JC.below z
      replace JD := JD.below z
      clear z
      have i0 := I.g0
      have i1 := I.g1
      have i2 := I.g2
      have i3 := I.g3
      have i4 := I.g4
      have i5 := I.g5
      have i6 := I.g6
      have i7 := I.g7
      have il := I.lt
      have JC0 := JC.c0
      have JC1 := JC.c1
      have JCl := JC.lt
      have JD0 := JD.c0
      have JD1 := JD.c1
      have JDl := JD.lt
      have JP0 := JP.c0
      have JP1 := JP.c1
      have JPl := JP.lt
      go_wp2_with fail
      refine (HX.out _).mono ?_
      rintro e w5 ⟨rfl, z⟩
      clear i0 i1 i2 i3 i4 i5 i6 i7 il JC0 JC1 JCl JD0 JD1 JDl JP0 JP1 JPl
      have JQ : BC w5 w4.heap.size Q := (BC.new (a := Q) rfl).below z
      have ba : Below w4.heap.size w4 (w4.alloc (.cells #[.int .u64 (ub Q.1), .int .u64 (ub Q.2)] 53)) := (Below.refl _ _).alloc (Nat.le_refl _) _
      replace I := I.next ba
      replace JC := JC.below ba
      replace JD := JD.below ba
      replace JP := JP.below ba
      clear ba
      replace I := I.next z
      replace JC := JC.below z
      replace JD := JD.below z
      replace JP := JP.below z
      clear z
      have i0 := I.g0
      have i1 := I.g1
      have i2 := I.g2
      have i3 := I.g3
      have i4 := I.g4
      have i5 := I.g5
      have i6 := I.g6
      have i7 := I.g7
      have il := I.lt
      have JC0 := JC.c0
      have JC1 := JC.c1
      have JCl := JC.lt
      have JD0 := JD.c0
      have JD1 := JD.c1
      have JDl := JD.lt
      have JP0 := JP.c0
      have JP1 := JP.c1
      have JPl := JP.lt
      have JQ0 := JQ.c0
      have JQ1 := JQ.c1
      have JQl := JQ.lt
      go_wp2_with fail
      refine (HY.out _).mono ?_
      rintro e w6 ⟨rfl, z⟩
      clear i0 i1 i2 i3 i4 i5 i6 i7 il JC0 JC1 JCl JD0 JD1 JDl JP0 JP1 JPl JQ0 JQ1 JQl
      have JX : BC w6 w5.heap.size RX := (BC.new (a := RX) rfl).below z
      have ba : Below w5.heap.size w5 (w5.alloc (.cells #[.int .u64 (ub RX.1), .int .u64 (ub RX.2)] 53)) := (Below.refl _ _).alloc (Nat.le_refl _) _
      replace I := I.next ba
      replace JC := JC.below ba
      replace JD := JD.below ba
      replace JP := JP.below ba
      replace JQ := JQ.below ba
      clear ba
      replace I := I.next z
      replace JC := JC.below z
      replace JD := JD.below z
      replace JP := JP.below z
      replace JQ := JQ.below z
      clear z
      have i0 := I.g0
      have i1 := I.g1
      have i2 := I.g2
      have i3 := I.g3
      have i4 := I.g4
      have i5 := I.g5
      have i6 := I.g6
      have i7 := I.g7
      have il := I.lt
      have JC0 := JC.c0
      have JC1 := JC.c1
      have JCl := JC.lt
      have JD0 := JD.c0
      have JD1 := JD.c1
      have JDl := JD.lt
      have JP0 := JP.c0
      have JP1 := JP.c1
      have JPl := JP.lt
      have JQ0 := JQ.c0
      have JQ1 := JQ.c1
      have JQl := JQ.lt
      have JX0 := JX.c0
      have JX1 := JX.c1
      have JXl := JX.lt
      go_wp2_with fail
      refine (HM.out _).mono ?_
      rintro e w7 ⟨rfl, z⟩
      clear i0 i1 i2 i3 i4 i5 i6 i7 il JC0 JC1 JCl JD0 JD1 JDl JP0 JP1 JPl JQ0 JQ1 JQl JX0 JX1 JXl
      have JY : BC w7 w6.heap.size RY := (BC.new (a := RY) rfl).below z
      have ba : Below w6.heap.size w6 (w6.alloc (.cells #[.int .u64 (ub RY.1), .int .u64 (ub RY.2)] 53)) := (Below.refl _ _).alloc (Nat.le_refl _) _
      replace I := I.next ba
      replace JC := JC.below ba
      replace JD := JD.below ba
      replace JP := JP.below ba
      replace JQ := JQ.below ba
      replace JX := JX.below ba
      clear ba
      replace I := I.next z
      replace JC := JC.below z
      replace JD := JD.below z
      replace JP := JP.below z
      replace JQ := JQ.below z
      replace JX := JX.below z
      clear z
      have i0 := I.g0
      have i1 := I.g1
      have i2 := I.g2
      have i3 := I.g3
      have i4 := I.g4
      have i5 := I.g5
      have i6 := I.g6
      have i7 := I.g7
      have il := I.lt
      have JC0 := JC.c0
      have JC1 := JC.c1
      have JCl := JC.lt
      have JD0 := JD.c0
      have JD1 := JD.c1
      have JDl := JD.lt
      have JP0 := JP.c0
      have JP1 := JP.c1
      have JPl := JP.lt
      have JQ0 := JQ.c0
      have JQ1 := JQ.c1
      have JQl := JQ.lt
      have JX0 := JX.c0
      have JX1 := JX.c1
      have JXl := JX.lt
      have JY0 := JY.c0
      have JY1 := JY.c1
      have JYl := JY.lt
      go_wp2_with fail
      refine (HN.out _).mono ?_
      rintro e w8 ⟨rfl, z⟩
      clear i0 i1 i2 i3 i4 i5 i6 i7 il JC0 JC1 JCl JD0 JD1 JDl JP0 JP1 JPl JQ0 JQ1 JQl JX0 JX1 JXl JY0 JY1 JYl
      have JM : BC w8 w7.heap.size M := (BC.new (a := M) rfl).below z
      have ba : Below w7.heap.size w7 (w7.alloc (.cells #[.int .u64 (ub M.1), .int .u64 (ub M.2)] 53)) := (Below.refl _ _).alloc (Nat.le_refl _) _
      replace I := I.next ba
      replace JC := JC.below ba
      replace JD := JD.below ba
      replace JP := JP.below ba
      replace JQ := JQ.below ba
      replace JX := JX.below ba
      replace JY := JY.below ba
      clear ba
      replace I := I.next z
      replace JC := JC.below z
      replace JD := JD.below z
      replace JP := JP.below z
      replace JQ := JQ.below z
      replace JX := JX.below z
      replace JY := JY.below z
      clear z
      have i0 := I.g0
      have i1 := I.g1
      have i2 := I.g2
      have i3 := I.g3
      have i4 := I.g4
      have i5 := I.g5
      have i6 := I.g6
      have i7 := I.g7
      have il := I.lt
      have JC0 := JC.c0
      have JC1 := JC.c1
      have JCl := JC.lt
      have JD0 := JD.c0
      have JD1 := JD.c1
      have JDl := JD.lt
      have JP0 := JP.c0
      have JP1 := JP.c1
      have JPl := JP.lt
      have JQ0 := JQ.c0
      have JQ1 := JQ.c1
      have JQl := JQ.lt
      have JX0 := JX.c0
      have JX1 := JX.c1
      have JXl := JX.lt
      have JY0 := JY.c0
      have JY1 := JY.c1
      have JYl := JY.lt
      have JM0 := JM.c0
      have JM1 := JM.c1
      have JMl := JM.lt
      go_wp2_with fail
      have JN : BC (w8.alloc (.cells #[.int .u64 (ub N.1), .int .u64 (ub N.2)] 53)) w8.heap.size N := BC.new rfl
      have ba : Below w8.heap.size w8 (w8.alloc (.cells #[.int .u64 (ub N.1), .int .u64 (ub N.2)] 53)) := (Below.refl _ _).alloc (Nat.le_refl _) _
      clear i0 i1 i2 i3 i4 i5 i6 i7 il JC0 JC1 JCl JD0 JD1 JDl JP0 JP1 JPl JQ0 JQ1 JQl JX0 JX1 JXl JY0 JY1 JYl JM0 JM1 JMl
      replace I := I.next ba
      replace JC := JC.below ba
      replace JD := JD.below ba
      replace JP := JP.below ba
      replace JQ := JQ.below ba
      replace JX := JX.below ba
      replace JY := JY.below ba
      replace JM := JM.below ba
      clear ba
      generalize w8.alloc (.cells #[.int .u64 (ub N.1), .int .u64 (ub N.2)] 53) = u9 at *
      have p0 := I.g2
      have p1 := I.g3
      have p2 := I.g4
      have p3 := I.g5
      have p4 := JP.c0
      have p5 := JP.c1
      have p6 := JQ.c0
      have p7 := JQ.c1
      have HB0 := I.bel
      clear I JC JD JP JQ JX JY JM JN
      go_region_held3 (fun w' => w'.cell? ⟨w.heap.size, 2, none⟩ = some (.int .u64 (ub A.1)) ∧ w'.cell? ⟨w.heap.size, 3, none⟩ = some (.int .u64 (ub A.2)) ∧ w'.cell? ⟨w.heap.size, 4, none⟩ = some (.int .u64 (ub B.1)) ∧ w'.cell? ⟨w.heap.size, 5, none⟩ = some (.int .u64 (ub B.2)) ∧ w'.cell? ⟨w3.heap.size, 0, none⟩ = some (.int .u64 (ub P.1)) ∧ w'.cell? ⟨w3.heap.size, 1, none⟩ = some (.int .u64 (ub P.2)) ∧ w'.cell? ⟨w4.heap.size, 0, none⟩ = some (.int .u64 (ub Q.1)) ∧ w'.cell? ⟨w4.heap.size, 1, none⟩ = some (.int .u64 (ub Q.2)) ∧ Below w.heap.size w w')
        (first
          | (go_split_ands; exact ⟨by with_reducible assumption, by with_reducible assumption, by with_reducible assumption, by with_reducible assumption, by with_reducible assumption, by with_reducible assumption, by with_reducible assumption, by with_reducible assumption, by with_reducible assumption⟩)
          | exact ⟨cn bq (by with_reducible assumption), cn bq (by with_reducible assumption), cn bq (by with_reducible assumption), cn bq (by with_reducible assumption), cn bq (by with_reducible assumption), cn bq (by with_reducible assumption), cn bq (by with_reducible assumption), cn bq (by with_reducible assumption), Below.trans (by with_reducible assumption) (bq.mono (Below.size (by with_reducible assumption)))⟩
          | exact ⟨cn (below_dr u9) p0, cn (below_dr u9) p1, cn (below_dr u9) p2, cn (below_dr u9) p3, cn (below_dr u9) p4, cn (below_dr u9) p5, cn (below_dr u9) p6, cn (below_dr u9) p7, HB0.drew⟩)
        (first | (go_at_call 44; go_split_ands; (with_reducible refine (HIa.out _).mono ?_); rintro e wq ⟨rfl, bq⟩) | (go_at_call 44; go_split_ands; (with_reducible refine (HIb.out _).mono ?_); rintro e wq ⟨rfl, bq⟩) | (go_at_call 50; go_split_ands; (with_reducible refine (HJ1.out _).mono ?_); rintro e wq ⟨rfl, bq⟩) | (go_at_call 50; go_split_ands; (with_reducible refine (HJ2.out _).mono ?_); rintro e wq ⟨rfl, bq⟩) | (go_at_call 44; go_split_ands; (with_reducible refine (HIj.out _).mono ?_); rintro e wq ⟨rfl, bq⟩) | (go_at_call 52; go_split_ands; (with_reducible refine (HK1.out _).mono ?_); rintro e wq ⟨rfl, bq⟩) | (go_at_call 52; go_split_ands; (with_reducible refine (HK2.out _).mono ?_); rintro e wq ⟨rfl, bq⟩) | (go_at_call 44; go_split_ands; (with_reducible refine (HIk.out _).mono ?_); rintro e wq ⟨rfl, bq⟩) | (go_at_call 47; go_split_ands; (with_reducible refine (HW.out _).mono ?_); rintro e wq ⟨rfl, bq⟩))
      go_split_ands
      have HB : Hid (Below w.heap.size w wq) := hid (by with_reducible assumption)
      go_wp2
      go_ret
      exact ⟨rfl, HB.out⟩
end Go.Proofs.Ytpeieokmafpaiaa
