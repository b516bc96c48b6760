import Derived.Test.YtodmikjpmcabiaaGreatZSfB
import Derived.Deep.RegionLaw
import Derived.Deep.RegionHeld3
import Derived.BigRegion
namespace Go.Proofs.YtodmikjpmcabiaaGreat
set_option linter.unusedSimpArgs false
set_option linter.unusedVariables false
set_option maxRecDepth 100000
set_option maxRecDepth 100000
open Go.ChangeShapes Go.WideShapes Go.ChangeAt Go.RowKit

set_option maxHeartbeats 32000000 in
theorem rRefine_q10n (op : Int) (c : Bool) (a b : Sc) (k : Bool) (h : Wd.isCond op = true) (ha : mayX a = true) (hb : mayX b = true) (hR : ¬ refH (if k = true then op else oppR op) c a b) (hq : unsI (if k = true then op else oppR op) = 10) (hT : a.2.1 = topB ∨ b.2.2 = 0#64) (w : World) : Calls Tryz.prog 30 #[.int .i64 op, .bool c, sv a, sv b, .bool k] w fun e w' => e = .returned (tri (refQ 10 a b)) ∧ Below w.heap.size w w' := by
 have X1 := fun W => Wd.rcond_any op c 0 0 W (by decide) (by decide) (by decide) (by decide)
 have X2 := fun W => rMayX_any a W
 have X3 := fun W => rMayX_any b W
 have XO := fun W => rOpp_any op W
 generalize Wd.condI op c 0 0 = N at X1
 rw [show Wd.condE op = 0 from if_pos h] at X1
 rw [ha] at X2
 rw [hb] at X3
 obtain ⟨q0, hq0⟩ : ∃ q0, q0 = if k = true then op else oppR op := ⟨_, rfl⟩
 have HQ0 := hid hq0
 obtain ⟨M, hM⟩ : ∃ M, M = bmax a.2.2 b.2.2 := ⟨_, rfl⟩
 have HM := hid hM
 have hH : ¬ refH q0 c a b := by rw [hq0]; exact hR
 unfold refH at hH
 rw [← hM] at hH
 replace hH := hid hH
 have HQ : Hid (unsI q0 = 10) := hid (by rw [hq0]; exact hq)
 have XP : ∀ W, Calls Tryz.prog 65 #[.int .i64 q0] W fun e w' => e = .returned (.int .i64 (unsI q0)) ∧ Below W.heap.size W w' := fun W => (rPlain_any q0 W).mono fun e w' hh => ⟨hh.1, by rw [hh.2]; exact Below.refl _ _⟩
 rw [show refQ 10 a b = noT from if_pos hT]
 have HT := hid hT
 clear h ha hb hq0 hM hR hq hT
 obtain ⟨⟨v, m⟩, l, h⟩ := a
 obtain ⟨⟨v', m'⟩, l', h'⟩ := b
 unfold tri noT
 unfold sv at X2 X3 ⊢
 dsimp only at X2 X3 HM HT ⊢
 replace X1 := hid X1
 replace X2 := hid X2
 replace X3 := hid X3
 replace XO := hid XO
 replace XP := hid XP
 go_enter Tryz.func30, Tryz.ntmps30
 refine wp_seq ?_
 refine cutS [7, 8, 10, 11, 12] (fun us W' => us.getD 0 undef = .pointer (some ⟨w.heap.size, 0, none⟩) ∧ us.getD 1 undef = .pointer (some ⟨w.heap.size + 1, 0, none⟩) ∧ us.getD 2 undef = .pointer (some ⟨w.heap.size + 1 + 1, 0, none⟩) ∧ us.getD 3 undef = .pointer (some ⟨w.heap.size + 1 + 1 + 1, 0, none⟩) ∧ us.getD 4 undef = .bool false ∧ FBx w W' ((v, m), l, h) ((v', m'), l', h') (sc0) (sc0) (Below w.heap.size w W')) ?_ ?_
 ·
  go_wp2
  exact cutEnd ⟨by kernel_rfl, by kernel_rfl, by kernel_rfl, by kernel_rfl, by kernel_rfl, (((SC.new (x := ((v, m), l, h)) rfl).alloc _).alloc _).alloc _, ((SC.new (x := ((v', m'), l', h')) (by simp)).alloc _).alloc _, (SC.new (x := sc0) (by simp)).alloc _, SC.new (x := sc0) (by simp), bel_alloc (bel_alloc (bel_alloc (bel_alloc (Below.refl _ _))))⟩ (by kernel_rfl)
 intro w1 u7 u8 u10 u11 u12 hF
 obtain ⟨e7, e8, e10, e11, e12, JX, JY, Ja, Jb, B⟩ := hF
 obtain rfl : u7 = _ := e7
 obtain rfl : u8 = _ := e8
 obtain rfl : u10 = _ := e10
 obtain rfl : u11 = _ := e11
 obtain rfl : u12 = _ := e12
 simp only [sets, s1, s2, s3]
 try simp only [Exit.then]
 obtain ⟨gn, hgn⟩ : ∃ g : Nat, g = w1.heap.size := ⟨_, rfl⟩
 have ln : w.heap.size + 1 + 1 + 1 < gn := by rw [hgn]; exact Jb.lt
 refine wp_seq ?_
 refine cutS [13, 21] (fun us W' => us.getD 0 undef = .pointer (some ⟨gn, 0, none⟩) ∧ FBx w W' ((v, m), l, h) ((v', m'), l', h') (sc0) (sc0) (SC W' (gn) (sc0) ∧ Below w.heap.size w W')) ?_ ?_
 ·
  obtain ⟨JXl, JX0, JX1, JX2, JX3⟩ := JX.k
  obtain ⟨JYl, JY0, JY1, JY2, JY3⟩ := JY.k
  obtain ⟨Jal, Ja0, Ja1, Ja2, Ja3⟩ := Ja.k
  obtain ⟨Jbl, Jb0, Jb1, Jb2, Jb3⟩ := Jb.k
  have lb := B.size
  go_wp2
  rw [← hgn]
  exact cutEnd ⟨by kernel_rfl, JX.alloc _, JY.alloc _, Ja.alloc _, Jb.alloc _, SC.new (x := sc0) hgn, bel_alloc B⟩ (by kernel_rfl)
 clear JX JY Ja Jb B
 intro w2 u13 u21 hF
 obtain ⟨e13, JX, JY, Ja, Jb, JN, B⟩ := hF
 obtain rfl : u13 = _ := e13
 simp only [sets, s1, s2, s3]
 try simp only [Exit.then]
 clear hgn
 refine wp_seq ?_
 refine cutS [14, 15, 22, 23, 24, 25, 26, 27] (fun us W' => us.getD 1 undef = .int .i64 0 ∧ FBx w W' ((v, m), l, h) ((v', m'), l', h') (sc0) (sc0) (SC W' (gn) (sc0) ∧ Below w.heap.size w W')) ?_ ?_
 ·
  go_wp2_with fail
  refine (X1.out _).mono ?_
  rintro e w_ ⟨rfl, rfl⟩
  go_wp2
  exact cutEnd ⟨by kernel_rfl, JX, JY, Ja, Jb, JN, B⟩ (by kernel_rfl)
 clear JX JY Ja Jb JN B
 intro w3 u14 u15 u22 u23 u24 u25 u26 u27 hF
 obtain ⟨e15, JX, JY, Ja, Jb, JN, B⟩ := hF
 obtain rfl : u15 = _ := e15
 simp only [sets, s1, s2, s3]
 try simp only [Exit.then]
 refine wp_seq ?_
 refine cutS [28, 29, 30, 31, 32, 33, 34, 35, 36, 37, 38, 39] (fun us W' => FBx w W' ((v, m), l, h) ((v', m'), l', h') (sc0) (sc0) (SC W' (gn) (sc0) ∧ Below w.heap.size w W')) ?_ ?_
 ·
  obtain ⟨JXl, JX0, JX1, JX2, JX3⟩ := JX.k
  obtain ⟨JYl, JY0, JY1, JY2, JY3⟩ := JY.k
  obtain ⟨Jal, Ja0, Ja1, Ja2, Ja3⟩ := Ja.k
  obtain ⟨Jbl, Jb0, Jb1, Jb2, Jb3⟩ := Jb.k
  obtain ⟨JNl, JN0, JN1, JN2, JN3⟩ := JN.k
  have lb := B.size
  go_wp2_with fail
  refine (X2.out _).mono ?_
  rintro e wa ⟨rfl, z⟩
  clear JX0 JX1 JX2 JX3 JXl JY0 JY1 JY2 JY3 JYl Ja0 Ja1 Ja2 Ja3 Jal Jb0 Jb1 Jb2 Jb3 Jbl JN0 JN1 JN2 JN3 JNl lb
  replace JX := JX.below z
  replace JY := JY.below z
  replace Ja := Ja.below z
  replace Jb := Jb.below z
  replace JN := JN.below z
  replace B := below_next B z
  clear z
  obtain ⟨JXl, JX0, JX1, JX2, JX3⟩ := JX.k
  obtain ⟨JYl, JY0, JY1, JY2, JY3⟩ := JY.k
  obtain ⟨Jal, Ja0, Ja1, Ja2, Ja3⟩ := Ja.k
  obtain ⟨Jbl, Jb0, Jb1, Jb2, Jb3⟩ := Jb.k
  obtain ⟨JNl, JN0, JN1, JN2, JN3⟩ := JN.k
  have lb := B.size
  go_wp2_with fail
  refine (X3.out _).mono ?_
  rintro e wb ⟨rfl, z⟩
  clear JX0 JX1 JX2 JX3 JXl JY0 JY1 JY2 JY3 JYl Ja0 Ja1 Ja2 Ja3 Jal Jb0 Jb1 Jb2 Jb3 Jbl JN0 JN1 JN2 JN3 JNl lb
  replace JX := JX.below z
  replace JY := JY.below z
  replace Ja := Ja.below z
  replace Jb := Jb.below z
  replace JN := JN.below z
  replace B := below_next B z
  clear z
  go_wp2
  exact cutEnd ⟨JX, JY, Ja, Jb, JN, B⟩ (by kernel_rfl)
 clear JX JY Ja Jb JN B
 intro w4 u28 u29 u30 u31 u32 u33 u34 u35 u36 u37 u38 u39 hF
 obtain ⟨JX, JY, Ja, Jb, JN, B⟩ := hF
 simp only [sets, s1, s2, s3]
 try simp only [Exit.then]
 have hq0 : Hid (q0 = if k = true then op else oppR op) := HQ0
 refine wp_seq ?_
 refine cutS [0, 42, 43, 44, 45] (fun us W' => us.getD 0 undef = .int .i64 q0 ∧ FBx w W' ((v, m), l, h) ((v', m'), l', h') (sc0) (sc0) (SC W' (gn) (sc0) ∧ Below w.heap.size w W')) ?_ ?_
 ·
  cases k
  ·
   obtain ⟨JXl, JX0, JX1, JX2, JX3⟩ := JX.k
   obtain ⟨JYl, JY0, JY1, JY2, JY3⟩ := JY.k
   obtain ⟨Jal, Ja0, Ja1, Ja2, Ja3⟩ := Ja.k
   obtain ⟨Jbl, Jb0, Jb1, Jb2, Jb3⟩ := Jb.k
   obtain ⟨JNl, JN0, JN1, JN2, JN3⟩ := JN.k
   have lb := B.size
   go_wp2_with fail
   refine (XO.out _).mono ?_
   rintro e wa ⟨rfl, z⟩
   clear JX0 JX1 JX2 JX3 JXl JY0 JY1 JY2 JY3 JYl Ja0 Ja1 Ja2 Ja3 Jal Jb0 Jb1 Jb2 Jb3 Jbl JN0 JN1 JN2 JN3 JNl lb
   replace JX := JX.below z
   replace JY := JY.below z
   replace Ja := Ja.below z
   replace Jb := Jb.below z
   replace JN := JN.below z
   replace B := below_next B z
   clear z
   have hqq : q0 = oppR op := hq0.out
   go_wp2
   try rw [hqq]
   exact cutEnd ⟨by kernel_rfl, JX, JY, Ja, Jb, JN, B⟩ (by kernel_rfl)
  ·
   have hqq : q0 = op := hq0.out
   go_wp2
   try rw [hqq]
   exact cutEnd ⟨by kernel_rfl, JX, JY, Ja, Jb, JN, B⟩ (by kernel_rfl)
 clear JX JY Ja Jb JN B
 intro w5 u0 u42 u43 u44 u45 hF
 obtain ⟨e0, JX, JY, Ja, Jb, JN, B⟩ := hF
 obtain rfl : u0 = _ := e0
 simp only [sets, s1, s2, s3]
 try simp only [Exit.then]
 refine wp_seq ?_
 refine cutS [16, 46, 47, 48] (fun us W' => us.getD 0 undef = .int .u64 (ub h) ∧ FBx w W' ((v, m), l, h) ((v', m'), l', h') (sc0) (sc0) (SC W' (gn) (sc0) ∧ Below w.heap.size w W')) ?_ ?_
 ·
  obtain ⟨JXl, JX0, JX1, JX2, JX3⟩ := JX.k
  obtain ⟨JYl, JY0, JY1, JY2, JY3⟩ := JY.k
  obtain ⟨Jal, Ja0, Ja1, Ja2, Ja3⟩ := Ja.k
  obtain ⟨Jbl, Jb0, Jb1, Jb2, Jb3⟩ := Jb.k
  obtain ⟨JNl, JN0, JN1, JN2, JN3⟩ := JN.k
  have lb := B.size
  go_wp2
  exact cutEnd ⟨by kernel_rfl, JX, JY, Ja, Jb, JN, B⟩ (by kernel_rfl)
 clear JX JY Ja Jb JN B
 intro w6 u16 u46 u47 u48 hF
 obtain ⟨e16, JX, JY, Ja, Jb, JN, B⟩ := hF
 obtain rfl : u16 = _ := e16
 simp only [sets, s1, s2, s3]
 try simp only [Exit.then]
 refine wp_seq ?_
 refine cutS [16, 49, 50, 51, 52, 53, 54, 55, 56] (fun us W' => us.getD 0 undef = .int .u64 (ub M) ∧ FBx w W' ((v, m), l, h) ((v', m'), l', h') (sc0) (sc0) (SC W' (gn) (sc0) ∧ Below w.heap.size w W')) ?_ ?_
 ·
  by_cases hm : ub h < ub h'
  ·
   have dm : decide (ub h < ub h') = true := decide_eq_true hm
   rw [show M = h' by rw [HM.out]; exact bmax_right hm]
   obtain ⟨JXl, JX0, JX1, JX2, JX3⟩ := JX.k
   obtain ⟨JYl, JY0, JY1, JY2, JY3⟩ := JY.k
   obtain ⟨Jal, Ja0, Ja1, Ja2, Ja3⟩ := Ja.k
   obtain ⟨Jbl, Jb0, Jb1, Jb2, Jb3⟩ := Jb.k
   obtain ⟨JNl, JN0, JN1, JN2, JN3⟩ := JN.k
   have lb := B.size
   go_wp2
   exact cutEnd ⟨by kernel_rfl, JX, JY, Ja, Jb, JN, B⟩ (by kernel_rfl)
  ·
   have dm : decide (ub h < ub h') = false := decide_eq_false hm
   rw [show M = h by rw [HM.out]; exact bmax_left hm]
   obtain ⟨JXl, JX0, JX1, JX2, JX3⟩ := JX.k
   obtain ⟨JYl, JY0, JY1, JY2, JY3⟩ := JY.k
   obtain ⟨Jal, Ja0, Ja1, Ja2, Ja3⟩ := Ja.k
   obtain ⟨Jbl, Jb0, Jb1, Jb2, Jb3⟩ := Jb.k
   obtain ⟨JNl, JN0, JN1, JN2, JN3⟩ := JN.k
   have lb := B.size
   go_wp2
   exact cutEnd ⟨by kernel_rfl, JX, JY, Ja, Jb, JN, B⟩ (by kernel_rfl)
 clear JX JY Ja Jb JN B
 intro w7 u16 u49 u50 u51 u52 u53 u54 u55 u56 hF
 obtain ⟨e16, JX, JY, Ja, Jb, JN, B⟩ := hF
 obtain rfl : u16 = _ := e16
 simp only [sets, s1, s2, s3]
 try simp only [Exit.then]
 have UM : Hid ((ub M : Int) = (M.toNat : Int)) := rfl
 refine wp_seq ?_
 refine cutS [57, 58, 59, 60, 61, 62] (fun us W' => FBx w W' ((v, m), l, h) ((v', m'), l', h') (sc0) (sc0) (SC W' (gn) (sc0) ∧ Below w.heap.size w W')) ?_ ?_
 ·
  cases c
  ·
   have d1 : ¬ (4294967296 : Int) ≤ ub M := by rw [UM.out]; intro q; exact hH.out (.inl ⟨rfl, by omega⟩)
   go_wp2
   exact cutEnd ⟨JX, JY, Ja, Jb, JN, B⟩ (by kernel_rfl)
  ·
   go_wp2
   exact cutEnd ⟨JX, JY, Ja, Jb, JN, B⟩ (by kernel_rfl)
 clear JX JY Ja Jb JN B
 intro w8 u57 u58 u59 u60 u61 u62 hF
 obtain ⟨JX, JY, Ja, Jb, JN, B⟩ := hF
 simp only [sets, s1, s2, s3]
 try simp only [Exit.then]
 refine wp_seq ?_
 refine cutS [0, 65, 66, 67, 68, 69, 70, 71, 72, 73, 74, 75, 76, 77, 78, 79, 80, 81, 82, 83, 84, 85] (fun us W' => us.getD 0 undef = .int .i64 10 ∧ FBx w W' ((v, m), l, h) ((v', m'), l', h') (sc0) (sc0) (SC W' (gn) (sc0) ∧ Below w.heap.size w W')) ?_ ?_
 ·
  by_cases he : unsI q0 = q0
  ·
   have hb1 : (unsI q0 != q0) = false := by simpa using he
   have hq9 : Hid (q0 = 10) := hid (he.symm.trans HQ.out)
   clear he
   obtain ⟨JXl, JX0, JX1, JX2, JX3⟩ := JX.k
   obtain ⟨JYl, JY0, JY1, JY2, JY3⟩ := JY.k
   obtain ⟨Jal, Ja0, Ja1, Ja2, Ja3⟩ := Ja.k
   obtain ⟨Jbl, Jb0, Jb1, Jb2, Jb3⟩ := Jb.k
   obtain ⟨JNl, JN0, JN1, JN2, JN3⟩ := JN.k
   have lb := B.size
   go_wp2_with fail
   refine (XP.out _).mono ?_
   rintro e wa ⟨rfl, z⟩
   clear JX0 JX1 JX2 JX3 JXl JY0 JY1 JY2 JY3 JYl Ja0 Ja1 Ja2 Ja3 Jal Jb0 Jb1 Jb2 Jb3 Jbl JN0 JN1 JN2 JN3 JNl lb
   replace JX := JX.below z
   replace JY := JY.below z
   replace Ja := Ja.below z
   replace Jb := Jb.below z
   replace JN := JN.below z
   replace B := below_next B z
   clear z
   go_wp2
   rw [hq9.out]
   exact cutEnd ⟨by kernel_rfl, JX, JY, Ja, Jb, JN, B⟩ (by kernel_rfl)
  ·
   have hb1 : (unsI q0 != q0) = true := by simpa using he
   cases c
   ·
    have d2 : decide ((2147483648 : Int) ≤ ub M) = false := decide_eq_false (by rw [UM.out]; intro q; exact hH.out (.inr ⟨he, .inr ⟨rfl, by omega⟩⟩))
    clear he
    obtain ⟨JXl, JX0, JX1, JX2, JX3⟩ := JX.k
    obtain ⟨JYl, JY0, JY1, JY2, JY3⟩ := JY.k
    obtain ⟨Jal, Ja0, Ja1, Ja2, Ja3⟩ := Ja.k
    obtain ⟨Jbl, Jb0, Jb1, Jb2, Jb3⟩ := Jb.k
    obtain ⟨JNl, JN0, JN1, JN2, JN3⟩ := JN.k
    have lb := B.size
    go_wp2_with fail
    refine (XP.out _).mono ?_
    rintro e wa ⟨rfl, z⟩
    clear JX0 JX1 JX2 JX3 JXl JY0 JY1 JY2 JY3 JYl Ja0 Ja1 Ja2 Ja3 Jal Jb0 Jb1 Jb2 Jb3 Jbl JN0 JN1 JN2 JN3 JNl lb
    replace JX := JX.below z
    replace JY := JY.below z
    replace Ja := Ja.below z
    replace Jb := Jb.below z
    replace JN := JN.below z
    replace B := below_next B z
    clear z
    obtain ⟨JXl, JX0, JX1, JX2, JX3⟩ := JX.k
    obtain ⟨JYl, JY0, JY1, JY2, JY3⟩ := JY.k
    obtain ⟨Jal, Ja0, Ja1, Ja2, Ja3⟩ := Ja.k
    obtain ⟨Jbl, Jb0, Jb1, Jb2, Jb3⟩ := Jb.k
    obtain ⟨JNl, JN0, JN1, JN2, JN3⟩ := JN.k
    have lb := B.size
    go_wp2_with fail
    refine (XP.out _).mono ?_
    rintro e wb ⟨rfl, z⟩
    clear JX0 JX1 JX2 JX3 JXl JY0 JY1 JY2 JY3 JYl Ja0 Ja1 Ja2 Ja3 Jal Jb0 Jb1 Jb2 Jb3 Jbl JN0 JN1 JN2 JN3 JNl lb
    replace JX := JX.below z
    replace JY := JY.below z
    replace Ja := Ja.below z
    replace Jb := Jb.below z
    replace JN := JN.below z
    replace B := below_next B z
    clear z
    go_wp2
    rw [HQ.out]
    exact cutEnd ⟨by kernel_rfl, JX, JY, Ja, Jb, JN, B⟩ (by kernel_rfl)
   ·
    have d2 : decide ((9223372036854775808 : Int) ≤ ub M) = false := decide_eq_false (by rw [UM.out]; intro q; exact hH.out (.inr ⟨he, .inl ⟨rfl, by omega⟩⟩))
    clear he
    obtain ⟨JXl, JX0, JX1, JX2, JX3⟩ := JX.k
    obtain ⟨JYl, JY0, JY1, JY2, JY3⟩ := JY.k
    obtain ⟨Jal, Ja0, Ja1, Ja2, Ja3⟩ := Ja.k
    obtain ⟨Jbl, Jb0, Jb1, Jb2, Jb3⟩ := Jb.k
    obtain ⟨JNl, JN0, JN1, JN2, JN3⟩ := JN.k
    have lb := B.size
    go_wp2_with fail
    refine (XP.out _).mono ?_
    rintro e wa ⟨rfl, z⟩
    clear JX0 JX1 JX2 JX3 JXl JY0 JY1 JY2 JY3 JYl Ja0 Ja1 Ja2 Ja3 Jal Jb0 Jb1 Jb2 Jb3 Jbl JN0 JN1 JN2 JN3 JNl lb
    replace JX := JX.below z
    replace JY := JY.below z
    replace Ja := Ja.below z
    replace Jb := Jb.below z
    replace JN := JN.below z
    replace B := below_next B z
    clear z
    obtain ⟨JXl, JX0, JX1, JX2, JX3⟩ := JX.k
    obtain ⟨JYl, JY0, JY1, JY2, JY3⟩ := JY.k
    obtain ⟨Jal, Ja0, Ja1, Ja2, Ja3⟩ := Ja.k
    obtain ⟨Jbl, Jb0, Jb1, Jb2, Jb3⟩ := Jb.k
    obtain ⟨JNl, JN0, JN1, JN2, JN3⟩ := JN.k
    have lb := B.size
    go_wp2_with fail
    refine (XP.out _).mono ?_
    rintro e wb ⟨rfl, z⟩
    clear JX0 JX1 JX2 JX3 JXl JY0 JY1 JY2 JY3 JYl Ja0 Ja1 Ja2 Ja3 Jal Jb0 Jb1 Jb2 Jb3 Jbl JN0 JN1 JN2 JN3 JNl lb
    replace JX := JX.below z
    replace JY := JY.below z
    replace Ja := Ja.below z
    replace Jb := Jb.below z
    replace JN := JN.below z
    replace B := below_next B z
    clear z
    go_wp2
    rw [HQ.out]
    exact cutEnd ⟨by kernel_rfl, JX, JY, Ja, Jb, JN, B⟩ (by kernel_rfl)
 clear JX JY Ja Jb JN B
 intro w9 u0 u65 u66 u67 u68 u69 u70 u71 u72 u73 u74 u75 u76 u77 u78 u79 u80 u81 u82 u83 u84 u85 hF
 obtain ⟨e0, JX, JY, Ja, Jb, JN, B⟩ := hF
 obtain rfl : u0 = _ := e0
 simp only [sets, s1, s2, s3]
 try simp only [Exit.then]
 clear UM hH HQ XP X1 X2 X3 XO
 refine wp_seq ?_
 apply cutGG (F := fun g h_ W' => SC W' g ((v, m), l, h) ∧ SC W' h_ ((v', m'), l', h') ∧ (gn < g ∧ gn < h_ ∧ g ≠ h_) ∧ SC W' (w.heap.size) ((v, m), l, h) ∧ SC W' (w.heap.size + 1) ((v', m'), l', h') ∧ SC W' (w.heap.size + 1 + 1) (sc0) ∧ SC W' (w.heap.size + 1 + 1 + 1) (sc0) ∧ SC W' (gn) (sc0) ∧ Below w.heap.size w W')
 ·
  obtain ⟨JXl, JX0, JX1, JX2, JX3⟩ := JX.k
  obtain ⟨JYl, JY0, JY1, JY2, JY3⟩ := JY.k
  obtain ⟨Jal, Ja0, Ja1, Ja2, Ja3⟩ := Ja.k
  obtain ⟨Jbl, Jb0, Jb1, Jb2, Jb3⟩ := Jb.k
  obtain ⟨JNl, JN0, JN1, JN2, JN3⟩ := JN.k
  have lb := B.size
  have gl := JN.lt
  go_region
  all_goals
   obtain ⟨h2, hh2⟩ : ∃ h_, w9.heap.size + 1 = h_ := ⟨_, rfl⟩
   obtain ⟨g2, hg2⟩ : ∃ g, w9.heap.size = g := ⟨_, rfl⟩
   first
    | (refine ⟨g2, h2, ⟨?_, ?_, ⟨by omega, by omega, by omega⟩, ((JX.alloc _).alloc _).below (below_dr _), ((JY.alloc _).alloc _).below (below_dr _), ((Ja.alloc _).alloc _).below (below_dr _), ((Jb.alloc _).alloc _).below (below_dr _), ((JN.alloc _).alloc _).below (below_dr _), below_next (bel_alloc (bel_alloc B)) (below_dr _)⟩, ?_⟩
       · rw [← hg2]; exact (twoB ((v, m), l, h) ((v', m'), l', h') _ _ rfl rfl).1
       · rw [← hh2]; exact (twoB ((v, m), l, h) ((v', m'), l', h') _ _ rfl rfl).2
       · rw [hh2, hg2])
    | (refine ⟨h2, g2, ⟨?_, ?_, ⟨by omega, by omega, by omega⟩, ((JX.alloc _).alloc _).below (below_dr _), ((JY.alloc _).alloc _).below (below_dr _), ((Ja.alloc _).alloc _).below (below_dr _), ((Jb.alloc _).alloc _).below (below_dr _), ((JN.alloc _).alloc _).below (below_dr _), below_next (bel_alloc (bel_alloc B)) (below_dr _)⟩, ?_⟩
       · rw [← hh2]; exact (twoB ((v', m'), l', h') ((v, m), l, h) _ _ rfl rfl).2
       · rw [← hg2]; exact (twoB ((v', m'), l', h') ((v, m), l, h) _ _ rfl rfl).1
       · rw [hh2, hg2])
 clear JX JY Ja Jb JN B
 intro gm gk w40 ⟨Jm, Jn, ⟨lm, lk, lmk⟩, JX, JY, Ja, Jb, JN, B⟩
 try simp only [Exit.then]
 refine wp_seq ?_
 refine cutS [19, 20] (fun us W' => us.getD 0 undef = .bool true ∧ us.getD 1 undef = .bool true ∧ FBx w W' ((v, m), l, h) ((v', m'), l', h') (sc0) (sc0) (SC W' (gn) (sc0) ∧ SC W' (gm) ((v, m), l, h) ∧ SC W' (gk) ((v', m'), l', h') ∧ Below w.heap.size w W')) ?_ ?_
 ·
  go_wp2
  exact cutEnd ⟨by kernel_rfl, by kernel_rfl, JX, JY, Ja, Jb, JN, Jm, Jn, B⟩ (by kernel_rfl)
 clear JX JY Ja Jb JN Jm Jn B
 intro w10 u19 u20 hF
 obtain ⟨e19, e20, JX, JY, Ja, Jb, JN, Jm, Jn, B⟩ := hF
 obtain rfl : u19 = _ := e19
 obtain rfl : u20 = _ := e20
 simp only [sets, s1, s2, s3]
 try simp only [Exit.then]
 by_cases g1 : l = topB
 ·
  have f1 : (ub l == 18446744073709551615) = true := by rw [g1]; rfl
  clear HT g1
  obtain ⟨JXl, JX0, JX1, JX2, JX3⟩ := JX.k
  obtain ⟨JYl, JY0, JY1, JY2, JY3⟩ := JY.k
  obtain ⟨Jal, Ja0, Ja1, Ja2, Ja3, Jaf0, Jaf1, Jaf2, Jaf3⟩ := id Ja
  obtain ⟨Jbl, Jb0, Jb1, Jb2, Jb3, Jbf0, Jbf1, Jbf2, Jbf3⟩ := id Jb
  obtain ⟨JNl, JN0, JN1, JN2, JN3⟩ := JN.k
  obtain ⟨Jml, Jm0, Jm1, Jm2, Jm3, Jmf0, Jmf1, Jmf2, Jmf3⟩ := id Jm
  obtain ⟨Jnl, Jn0, Jn1, Jn2, Jn3, Jnf0, Jnf1, Jnf2, Jnf3⟩ := id Jn
  have lb := B.size
  go_wp2_with fail
  clear JX0 JX1 JX2 JX3 JXl JY0 JY1 JY2 JY3 JYl Ja0 Ja1 Ja2 Ja3 Jal Jaf0 Jaf1 Jaf2 Jaf3 Jb0 Jb1 Jb2 Jb3 Jbl Jbf0 Jbf1 Jbf2 Jbf3 JN0 JN1 JN2 JN3 JNl Jm0 Jm1 Jm2 Jm3 Jml Jmf0 Jmf1 Jmf2 Jmf3 Jn0 Jn1 Jn2 Jn3 Jnl Jnf0 Jnf1 Jnf2 Jnf3 lb
  obtain ⟨JXdl, JXd0, JXd1, JXd2, JXd3, JXdf0, JXdf1, JXdf2, JXdf3⟩ := id JX
  obtain ⟨JYdl, JYd0, JYd1, JYd2, JYd3, JYdf0, JYdf1, JYdf2, JYdf3⟩ := id JY
  obtain ⟨Jadl, Jad0, Jad1, Jad2, Jad3, Jadf0, Jadf1, Jadf2, Jadf3⟩ := id Ja
  obtain ⟨Jbdl, Jbd0, Jbd1, Jbd2, Jbd3, Jbdf0, Jbdf1, Jbdf2, Jbdf3⟩ := id Jb
  obtain ⟨JNdl, JNd0, JNd1, JNd2, JNd3, JNdf0, JNdf1, JNdf2, JNdf3⟩ := id JN
  obtain ⟨Jmdl, Jmd0, Jmd1, Jmd2, Jmd3, Jmdf0, Jmdf1, Jmdf2, Jmdf3⟩ := id Jm
  obtain ⟨Jndl, Jnd0, Jnd1, Jnd2, Jnd3, Jndf0, Jndf1, Jndf2, Jndf3⟩ := id Jn
  have ld := B.size
  apply cutF (F := fun W' => SC W' (w.heap.size) ((v, m), l, h) ∧ SC W' (w.heap.size + 1) ((v', m'), l', h') ∧ SC W' (w.heap.size + 1 + 1) (sc0) ∧ SC W' (w.heap.size + 1 + 1 + 1) (sc0) ∧ SC W' (gn) sc0 ∧ SC W' (gm) ((v, m), l, h) ∧ SC W' (gk) ((v', m'), l', h') ∧ Below w.heap.size w W')
  ·
   go_region
   all_goals exact ⟨⟨(((JX.other (c := w.heap.size + 1 + 1) (by omega) (sc0)).other (c := w.heap.size + 1 + 1 + 1) (by omega) (sc0)).below (below_dr _)), (((JY.other (c := w.heap.size + 1 + 1) (by omega) (sc0)).other (c := w.heap.size + 1 + 1 + 1) (by omega) (sc0)).below (below_dr _)), (((Ja.put (sc0)).other (c := w.heap.size + 1 + 1 + 1) (by omega) (sc0)).below (below_dr _)), (((Jb.other (c := w.heap.size + 1 + 1) (by omega) (sc0)).put (sc0)).below (below_dr _)), (((JN.other (c := w.heap.size + 1 + 1) (by omega) (sc0)).other (c := w.heap.size + 1 + 1 + 1) (by omega) (sc0)).below (below_dr _)), (((Jm.other (c := w.heap.size + 1 + 1) (by omega) (sc0)).other (c := w.heap.size + 1 + 1 + 1) (by omega) (sc0)).below (below_dr _)), (((Jn.other (c := w.heap.size + 1 + 1) (by omega) (sc0)).other (c := w.heap.size + 1 + 1 + 1) (by omega) (sc0)).below (below_dr _)), below_next (putS_below (sc0) (putS_below (sc0) B (by omega : w.heap.size ≤ w.heap.size + 1 + 1)) (by omega : w.heap.size ≤ w.heap.size + 1 + 1 + 1)) (below_dr _)⟩, rfl⟩
  clear JXd0 JXd1 JXd2 JXd3 JXdl JXdf0 JXdf1 JXdf2 JXdf3 JYd0 JYd1 JYd2 JYd3 JYdl JYdf0 JYdf1 JYdf2 JYdf3 Jad0 Jad1 Jad2 Jad3 Jadl Jadf0 Jadf1 Jadf2 Jadf3 Jbd0 Jbd1 Jbd2 Jbd3 Jbdl Jbdf0 Jbdf1 Jbdf2 Jbdf3 JNd0 JNd1 JNd2 JNd3 JNdl JNdf0 JNdf1 JNdf2 JNdf3 Jmd0 Jmd1 Jmd2 Jmd3 Jmdl Jmdf0 Jmdf1 Jmdf2 Jmdf3 Jnd0 Jnd1 Jnd2 Jnd3 Jndl Jndf0 Jndf1 Jndf2 Jndf3 ld
  clear JX JY Ja Jb JN Jm Jn B
  intro w61 ⟨JX, JY, Ja, Jb, JN, Jm, Jn, B⟩
  obtain ⟨JXl, JX0, JX1, JX2, JX3⟩ := JX.k
  obtain ⟨JYl, JY0, JY1, JY2, JY3⟩ := JY.k
  obtain ⟨Jal, Ja0, Ja1, Ja2, Ja3, Jaf0, Jaf1, Jaf2, Jaf3⟩ := id Ja
  obtain ⟨Jbl, Jb0, Jb1, Jb2, Jb3, Jbf0, Jbf1, Jbf2, Jbf3⟩ := id Jb
  obtain ⟨JNl, JN0, JN1, JN2, JN3⟩ := JN.k
  obtain ⟨Jml, Jm0, Jm1, Jm2, Jm3, Jmf0, Jmf1, Jmf2, Jmf3⟩ := id Jm
  obtain ⟨Jnl, Jn0, Jn1, Jn2, Jn3, Jnf0, Jnf1, Jnf2, Jnf3⟩ := id Jn
  have lb := B.size
  go_wp2
  exact bodyPost_ret (v := .tuple #[sv sc0, sv sc0, .bool false]) (by simp [results, Tryz.results30, go_sem, JX.k, JY.k, Ja.k, Jb.k, JN.k, Jm.k, Jn.k]; try first | rfl | exact ⟨rfl, rfl⟩) rfl ⟨rfl, B⟩
 ·
  have f2 : (ub h' == 0) = true := by rw [HT.out.resolve_left g1]; rfl
  have f1 : (ub l == 18446744073709551615) = false := by rw [beq_eq_false_iff_ne]; exact fun q => g1 (ub_inj.1 q)
  clear HT g1
  obtain ⟨JXl, JX0, JX1, JX2, JX3⟩ := JX.k
  obtain ⟨JYl, JY0, JY1, JY2, JY3⟩ := JY.k
  obtain ⟨Jal, Ja0, Ja1, Ja2, Ja3, Jaf0, Jaf1, Jaf2, Jaf3⟩ := id Ja
  obtain ⟨Jbl, Jb0, Jb1, Jb2, Jb3, Jbf0, Jbf1, Jbf2, Jbf3⟩ := id Jb
  obtain ⟨JNl, JN0, JN1, JN2, JN3⟩ := JN.k
  obtain ⟨Jml, Jm0, Jm1, Jm2, Jm3, Jmf0, Jmf1, Jmf2, Jmf3⟩ := id Jm
  obtain ⟨Jnl, Jn0, Jn1, Jn2, Jn3, Jnf0, Jnf1, Jnf2, Jnf3⟩ := id Jn
  have lb := B.size
  go_wp2_with fail
  clear JX0 JX1 JX2 JX3 JXl JY0 JY1 JY2 JY3 JYl Ja0 Ja1 Ja2 Ja3 Jal Jaf0 Jaf1 Jaf2 Jaf3 Jb0 Jb1 Jb2 Jb3 Jbl Jbf0 Jbf1 Jbf2 Jbf3 JN0 JN1 JN2 JN3 JNl Jm0 Jm1 Jm2 Jm3 Jml Jmf0 Jmf1 Jmf2 Jmf3 Jn0 Jn1 Jn2 Jn3 Jnl Jnf0 Jnf1 Jnf2 Jnf3 lb
  obtain ⟨JXdl, JXd0, JXd1, JXd2, JXd3, JXdf0, JXdf1, JXdf2, JXdf3⟩ := id JX
  obtain ⟨JYdl, JYd0, JYd1, JYd2, JYd3, JYdf0, JYdf1, JYdf2, JYdf3⟩ := id JY
  obtain ⟨Jadl, Jad0, Jad1, Jad2, Jad3, Jadf0, Jadf1, Jadf2, Jadf3⟩ := id Ja
  obtain ⟨Jbdl, Jbd0, Jbd1, Jbd2, Jbd3, Jbdf0, Jbdf1, Jbdf2, Jbdf3⟩ := id Jb
  obtain ⟨JNdl, JNd0, JNd1, JNd2, JNd3, JNdf0, JNdf1, JNdf2, JNdf3⟩ := id JN
  obtain ⟨Jmdl, Jmd0, Jmd1, Jmd2, Jmd3, Jmdf0, Jmdf1, Jmdf2, Jmdf3⟩ := id Jm
  obtain ⟨Jndl, Jnd0, Jnd1, Jnd2, Jnd3, Jndf0, Jndf1, Jndf2, Jndf3⟩ := id Jn
  have ld := B.size
  apply cutF (F := fun W' => SC W' (w.heap.size) ((v, m), l, h) ∧ SC W' (w.heap.size + 1) ((v', m'), l', h') ∧ SC W' (w.heap.size + 1 + 1) (sc0) ∧ SC W' (w.heap.size + 1 + 1 + 1) (sc0) ∧ SC W' (gn) sc0 ∧ SC W' (gm) ((v, m), l, h) ∧ SC W' (gk) ((v', m'), l', h') ∧ Below w.heap.size w W')
  ·
   go_region
   all_goals exact ⟨⟨(((JX.other (c := w.heap.size + 1 + 1) (by omega) (sc0)).other (c := w.heap.size + 1 + 1 + 1) (by omega) (sc0)).below (below_dr _)), (((JY.other (c := w.heap.size + 1 + 1) (by omega) (sc0)).other (c := w.heap.size + 1 + 1 + 1) (by omega) (sc0)).below (below_dr _)), (((Ja.put (sc0)).other (c := w.heap.size + 1 + 1 + 1) (by omega) (sc0)).below (below_dr _)), (((Jb.other (c := w.heap.size + 1 + 1) (by omega) (sc0)).put (sc0)).below (below_dr _)), (((JN.other (c := w.heap.size + 1 + 1) (by omega) (sc0)).other (c := w.heap.size + 1 + 1 + 1) (by omega) (sc0)).below (below_dr _)), (((Jm.other (c := w.heap.size + 1 + 1) (by omega) (sc0)).other (c := w.heap.size + 1 + 1 + 1) (by omega) (sc0)).below (below_dr _)), (((Jn.other (c := w.heap.size + 1 + 1) (by omega) (sc0)).other (c := w.heap.size + 1 + 1 + 1) (by omega) (sc0)).below (below_dr _)), below_next (putS_below (sc0) (putS_below (sc0) B (by omega : w.heap.size ≤ w.heap.size + 1 + 1)) (by omega : w.heap.size ≤ w.heap.size + 1 + 1 + 1)) (below_dr _)⟩, rfl⟩
  clear JXd0 JXd1 JXd2 JXd3 JXdl JXdf0 JXdf1 JXdf2 JXdf3 JYd0 JYd1 JYd2 JYd3 JYdl JYdf0 JYdf1 JYdf2 JYdf3 Jad0 Jad1 Jad2 Jad3 Jadl Jadf0 Jadf1 Jadf2 Jadf3 Jbd0 Jbd1 Jbd2 Jbd3 Jbdl Jbdf0 Jbdf1 Jbdf2 Jbdf3 JNd0 JNd1 JNd2 JNd3 JNdl JNdf0 JNdf1 JNdf2 JNdf3 Jmd0 Jmd1 Jmd2 Jmd3 Jmdl Jmdf0 Jmdf1 Jmdf2 Jmdf3 Jnd0 Jnd1 Jnd2 Jnd3 Jndl Jndf0 Jndf1 Jndf2 Jndf3 ld
  clear JX JY Ja Jb JN Jm Jn B
  intro w61 ⟨JX, JY, Ja, Jb, JN, Jm, Jn, B⟩
  obtain ⟨JXl, JX0, JX1, JX2, JX3⟩ := JX.k
  obtain ⟨JYl, JY0, JY1, JY2, JY3⟩ := JY.k
  obtain ⟨Jal, Ja0, Ja1, Ja2, Ja3, Jaf0, Jaf1, Jaf2, Jaf3⟩ := id Ja
  obtain ⟨Jbl, Jb0, Jb1, Jb2, Jb3, Jbf0, Jbf1, Jbf2, Jbf3⟩ := id Jb
  obtain ⟨JNl, JN0, JN1, JN2, JN3⟩ := JN.k
  obtain ⟨Jml, Jm0, Jm1, Jm2, Jm3, Jmf0, Jmf1, Jmf2, Jmf3⟩ := id Jm
  obtain ⟨Jnl, Jn0, Jn1, Jn2, Jn3, Jnf0, Jnf1, Jnf2, Jnf3⟩ := id Jn
  have lb := B.size
  go_wp2
  exact bodyPost_ret (v := .tuple #[sv sc0, sv sc0, .bool false]) (by simp [results, Tryz.results30, go_sem, JX.k, JY.k, Ja.k, Jb.k, JN.k, Jm.k, Jn.k]; try first | rfl | exact ⟨rfl, rfl⟩) rfl ⟨rfl, B⟩
set_option maxHeartbeats 32000000 in
theorem rRefine_q10 (op : Int) (c : Bool) (a b : Sc) (k : Bool) (h : Wd.isCond op = true) (ha : mayX a = true) (hb : mayX b = true) (hR : ¬ refH (if k = true then op else oppR op) c a b) (hq : unsI (if k = true then op else oppR op) = 10) (hT : ¬ (a.2.1 = topB ∨ b.2.2 = 0#64)) (w : World) : Calls Tryz.prog 30 #[.int .i64 op, .bool c, sv a, sv b, .bool k] w fun e w' => e = .returned (tri (refQ 10 a b)) ∧ Below w.heap.size w w' := by
 have X1 := fun W => Wd.rcond_any op c 0 0 W (by decide) (by decide) (by decide) (by decide)
 have X2 := fun W => rMayX_any a W
 have X3 := fun W => rMayX_any b W
 have XO := fun W => rOpp_any op W
 generalize Wd.condI op c 0 0 = N at X1
 rw [show Wd.condE op = 0 from if_pos h] at X1
 rw [ha] at X2
 rw [hb] at X3
 obtain ⟨q0, hq0⟩ : ∃ q0, q0 = if k = true then op else oppR op := ⟨_, rfl⟩
 have HQ0 := hid hq0
 obtain ⟨M, hM⟩ : ∃ M, M = bmax a.2.2 b.2.2 := ⟨_, rfl⟩
 have HM := hid hM
 have hH : ¬ refH q0 c a b := by rw [hq0]; exact hR
 unfold refH at hH
 rw [← hM] at hH
 replace hH := hid hH
 have HQ : Hid (unsI q0 = 10) := hid (by rw [hq0]; exact hq)
 have XP : ∀ W, Calls Tryz.prog 65 #[.int .i64 q0] W fun e w' => e = .returned (.int .i64 (unsI q0)) ∧ Below W.heap.size W w' := fun W => (rPlain_any q0 W).mono fun e w' hh => ⟨hh.1, by rw [hh.2]; exact Below.refl _ _⟩
 have XM := fun W => rWithin_any a (0#64) (b.2.2 - 1#64) W
 have XW := fun W => rWithin_any b (a.2.1 + 1#64) (topB) W
 rw [show refQ 10 a b = finO (witO a (0#64) (b.2.2 - 1#64)) (witO b (a.2.1 + 1#64) (topB)) from if_neg hT]
 unfold finO noT
 generalize (witO a (0#64) (b.2.2 - 1#64)).isSome = k1 at XM ⊢
 generalize optS (witO a (0#64) (b.2.2 - 1#64)) = Z1 at XM ⊢
 generalize (witO b (a.2.1 + 1#64) (topB)).isSome = k2 at XW ⊢
 generalize optS (witO b (a.2.1 + 1#64) (topB)) = Z2 at XW ⊢
 have HT := hid hT
 clear h ha hb hq0 hM hR hq hT
 obtain ⟨⟨v, m⟩, l, h⟩ := a
 obtain ⟨⟨v', m'⟩, l', h'⟩ := b
 unfold tri
 unfold sv at X2 X3 XM XW ⊢
 dsimp only at X2 X3 HM HT XM XW ⊢
 replace X1 := hid X1
 replace X2 := hid X2
 replace X3 := hid X3
 replace XO := hid XO
 replace XP := hid XP
 simp only [show ub topB = 18446744073709551615 from rfl, show ub 0#64 = 0 from rfl] at XM XW
 replace XM := hid XM
 replace XW := hid XW
 go_enter Tryz.func30, Tryz.ntmps30
 refine wp_seq ?_
 refine cutS [7, 8, 10, 11, 12] (fun us W' => us.getD 0 undef = .pointer (some ⟨w.heap.size, 0, none⟩) ∧ us.getD 1 undef = .pointer (some ⟨w.heap.size + 1, 0, none⟩) ∧ us.getD 2 undef = .pointer (some ⟨w.heap.size + 1 + 1, 0, none⟩) ∧ us.getD 3 undef = .pointer (some ⟨w.heap.size + 1 + 1 + 1, 0, none⟩) ∧ us.getD 4 undef = .bool false ∧ FBx w W' ((v, m), l, h) ((v', m'), l', h') (sc0) (sc0) (Below w.heap.size w W')) ?_ ?_
 ·
  go_wp2
  exact cutEnd ⟨by kernel_rfl, by kernel_rfl, by kernel_rfl, by kernel_rfl, by kernel_rfl, (((SC.new (x := ((v, m), l, h)) rfl).alloc _).alloc _).alloc _, ((SC.new (x := ((v', m'), l', h')) (by simp)).alloc _).alloc _, (SC.new (x := sc0) (by simp)).alloc _, SC.new (x := sc0) (by simp), bel_alloc (bel_alloc (bel_alloc (bel_alloc (Below.refl _ _))))⟩ (by kernel_rfl)
 intro w1 u7 u8 u10 u11 u12 hF
 obtain ⟨e7, e8, e10, e11, e12, JX, JY, Ja, Jb, B⟩ := hF
 obtain rfl : u7 = _ := e7
 obtain rfl : u8 = _ := e8
 obtain rfl : u10 = _ := e10
 obtain rfl : u11 = _ := e11
 obtain rfl : u12 = _ := e12
 simp only [sets, s1, s2, s3]
 try simp only [Exit.then]
 obtain ⟨gn, hgn⟩ : ∃ g : Nat, g = w1.heap.size := ⟨_, rfl⟩
 have ln : w.heap.size + 1 + 1 + 1 < gn := by rw [hgn]; exact Jb.lt
 refine wp_seq ?_
 refine cutS [13, 21] (fun us W' => us.getD 0 undef = .pointer (some ⟨gn, 0, none⟩) ∧ FBx w W' ((v, m), l, h) ((v', m'), l', h') (sc0) (sc0) (SC W' (gn) (sc0) ∧ Below w.heap.size w W')) ?_ ?_
 ·
  obtain ⟨JXl, JX0, JX1, JX2, JX3⟩ := JX.k
  obtain ⟨JYl, JY0, JY1, JY2, JY3⟩ := JY.k
  obtain ⟨Jal, Ja0, Ja1, Ja2, Ja3⟩ := Ja.k
  obtain ⟨Jbl, Jb0, Jb1, Jb2, Jb3⟩ := Jb.k
  have lb := B.size
  go_wp2
  rw [← hgn]
  exact cutEnd ⟨by kernel_rfl, JX.alloc _, JY.alloc _, Ja.alloc _, Jb.alloc _, SC.new (x := sc0) hgn, bel_alloc B⟩ (by kernel_rfl)
 clear JX JY Ja Jb B
 intro w2 u13 u21 hF
 obtain ⟨e13, JX, JY, Ja, Jb, JN, B⟩ := hF
 obtain rfl : u13 = _ := e13
 simp only [sets, s1, s2, s3]
 try simp only [Exit.then]
 clear hgn
 refine wp_seq ?_
 refine cutS [14, 15, 22, 23, 24, 25, 26, 27] (fun us W' => us.getD 1 undef = .int .i64 0 ∧ FBx w W' ((v, m), l, h) ((v', m'), l', h') (sc0) (sc0) (SC W' (gn) (sc0) ∧ Below w.heap.size w W')) ?_ ?_
 ·
  go_wp2_with fail
  refine (X1.out _).mono ?_
  rintro e w_ ⟨rfl, rfl⟩
  go_wp2
  exact cutEnd ⟨by kernel_rfl, JX, JY, Ja, Jb, JN, B⟩ (by kernel_rfl)
 clear JX JY Ja Jb JN B
 intro w3 u14 u15 u22 u23 u24 u25 u26 u27 hF
 obtain ⟨e15, JX, JY, Ja, Jb, JN, B⟩ := hF
 obtain rfl : u15 = _ := e15
 simp only [sets, s1, s2, s3]
 try simp only [Exit.then]
 refine wp_seq ?_
 refine cutS [28, 29, 30, 31, 32, 33, 34, 35, 36, 37, 38, 39] (fun us W' => FBx w W' ((v, m), l, h) ((v', m'), l', h') (sc0) (sc0) (SC W' (gn) (sc0) ∧ Below w.heap.size w W')) ?_ ?_
 ·
  obtain ⟨JXl, JX0, JX1, JX2, JX3⟩ := JX.k
  obtain ⟨JYl, JY0, JY1, JY2, JY3⟩ := JY.k
  obtain ⟨Jal, Ja0, Ja1, Ja2, Ja3⟩ := Ja.k
  obtain ⟨Jbl, Jb0, Jb1, Jb2, Jb3⟩ := Jb.k
  obtain ⟨JNl, JN0, JN1, JN2, JN3⟩ := JN.k
  have lb := B.size
  go_wp2_with fail
  refine (X2.out _).mono ?_
  rintro e wa ⟨rfl, z⟩
  clear JX0 JX1 JX2 JX3 JXl JY0 JY1 JY2 JY3 JYl Ja0 Ja1 Ja2 Ja3 Jal Jb0 Jb1 Jb2 Jb3 Jbl JN0 JN1 JN2 JN3 JNl lb
  replace JX := JX.below z
  replace JY := JY.below z
  replace Ja := Ja.below z
  replace Jb := Jb.below z
  replace JN := JN.below z
  replace B := below_next B z
  clear z
  obtain ⟨JXl, JX0, JX1, JX2, JX3⟩ := JX.k
  obtain ⟨JYl, JY0, JY1, JY2, JY3⟩ := JY.k
  obtain ⟨Jal, Ja0, Ja1, Ja2, Ja3⟩ := Ja.k
  obtain ⟨Jbl, Jb0, Jb1, Jb2, Jb3⟩ := Jb.k
  obtain ⟨JNl, JN0, JN1, JN2, JN3⟩ := JN.k
  have lb := B.size
  go_wp2_with fail
  refine (X3.out _).mono ?_
  rintro e wb ⟨rfl, z⟩
  clear JX0 JX1 JX2 JX3 JXl JY0 JY1 JY2 JY3 JYl Ja0 Ja1 Ja2 Ja3 Jal Jb0 Jb1 Jb2 Jb3 Jbl JN0 JN1 JN2 JN3 JNl lb
  replace JX := JX.below z
  replace JY := JY.below z
  replace Ja := Ja.below z
  replace Jb := Jb.below z
  replace JN := JN.below z
  replace B := below_next B z
  clear z
  go_wp2
  exact cutEnd ⟨JX, JY, Ja, Jb, JN, B⟩ (by kernel_rfl)
 clear JX JY Ja Jb JN B
 intro w4 u28 u29 u30 u31 u32 u33 u34 u35 u36 u37 u38 u39 hF
 obtain ⟨JX, JY, Ja, Jb, JN, B⟩ := hF
 simp only [sets, s1, s2, s3]
 try simp only [Exit.then]
 have hq0 : Hid (q0 = if k = true then op else oppR op) := HQ0
 refine wp_seq ?_
 refine cutS [0, 42, 43, 44, 45] (fun us W' => us.getD 0 undef = .int .i64 q0 ∧ FBx w W' ((v, m), l, h) ((v', m'), l', h') (sc0) (sc0) (SC W' (gn) (sc0) ∧ Below w.heap.size w W')) ?_ ?_
 ·
  cases k
  ·
   obtain ⟨JXl, JX0, JX1, JX2, JX3⟩ := JX.k
   obtain ⟨JYl, JY0, JY1, JY2, JY3⟩ := JY.k
   obtain ⟨Jal, Ja0, Ja1, Ja2, Ja3⟩ := Ja.k
   obtain ⟨Jbl, Jb0, Jb1, Jb2, Jb3⟩ := Jb.k
   obtain ⟨JNl, JN0, JN1, JN2, JN3⟩ := JN.k
   have lb := B.size
   go_wp2_with fail
   refine (XO.out _).mono ?_
   rintro e wa ⟨rfl, z⟩
   clear JX0 JX1 JX2 JX3 JXl JY0 JY1 JY2 JY3 JYl Ja0 Ja1 Ja2 Ja3 Jal Jb0 Jb1 Jb2 Jb3 Jbl JN0 JN1 JN2 JN3 JNl lb
   replace JX := JX.below z
   replace JY := JY.below z
   replace Ja := Ja.below z
   replace Jb := Jb.below z
   replace JN := JN.below z
   replace B := below_next B z
   clear z
   have hqq : q0 = oppR op := hq0.out
   go_wp2
   try rw [hqq]
   exact cutEnd ⟨by kernel_rfl, JX, JY, Ja, Jb, JN, B⟩ (by kernel_rfl)
  ·
   have hqq : q0 = op := hq0.out
   go_wp2
   try rw [hqq]
   exact cutEnd ⟨by kernel_rfl, JX, JY, Ja, Jb, JN, B⟩ (by kernel_rfl)
 clear JX JY Ja Jb JN B
 intro w5 u0 u42 u43 u44 u45 hF
 obtain ⟨e0, JX, JY, Ja, Jb, JN, B⟩ := hF
 obtain rfl : u0 = _ := e0
 simp only [sets, s1, s2, s3]
 try simp only [Exit.then]
 refine wp_seq ?_
 refine cutS [16, 46, 47, 48] (fun us W' => us.getD 0 undef = .int .u64 (ub h) ∧ FBx w W' ((v, m), l, h) ((v', m'), l', h') (sc0) (sc0) (SC W' (gn) (sc0) ∧ Below w.heap.size w W')) ?_ ?_
 ·
  obtain ⟨JXl, JX0, JX1, JX2, JX3⟩ := JX.k
  obtain ⟨JYl, JY0, JY1, JY2, JY3⟩ := JY.k
  obtain ⟨Jal, Ja0, Ja1, Ja2, Ja3⟩ := Ja.k
  obtain ⟨Jbl, Jb0, Jb1, Jb2, Jb3⟩ := Jb.k
  obtain ⟨JNl, JN0, JN1, JN2, JN3⟩ := JN.k
  have lb := B.size
  go_wp2
  exact cutEnd ⟨by kernel_rfl, JX, JY, Ja, Jb, JN, B⟩ (by kernel_rfl)
 clear JX JY Ja Jb JN B
 intro w6 u16 u46 u47 u48 hF
 obtain ⟨e16, JX, JY, Ja, Jb, JN, B⟩ := hF
 obtain rfl : u16 = _ := e16
 simp only [sets, s1, s2, s3]
 try simp only [Exit.then]
 refine wp_seq ?_
 refine cutS [16, 49, 50, 51, 52, 53, 54, 55, 56] (fun us W' => us.getD 0 undef = .int .u64 (ub M) ∧ FBx w W' ((v, m), l, h) ((v', m'), l', h') (sc0) (sc0) (SC W' (gn) (sc0) ∧ Below w.heap.size w W')) ?_ ?_
 ·
  by_cases hm : ub h < ub h'
  ·
   have dm : decide (ub h < ub h') = true := decide_eq_true hm
   rw [show M = h' by rw [HM.out]; exact bmax_right hm]
   obtain ⟨JXl, JX0, JX1, JX2, JX3⟩ := JX.k
   obtain ⟨JYl, JY0, JY1, JY2, JY3⟩ := JY.k
   obtain ⟨Jal, Ja0, Ja1, Ja2, Ja3⟩ := Ja.k
   obtain ⟨Jbl, Jb0, Jb1, Jb2, Jb3⟩ := Jb.k
   obtain ⟨JNl, JN0, JN1, JN2, JN3⟩ := JN.k
   have lb := B.size
   go_wp2
   exact cutEnd ⟨by kernel_rfl, JX, JY, Ja, Jb, JN, B⟩ (by kernel_rfl)
  ·
   have dm : decide (ub h < ub h') = false := decide_eq_false hm
   rw [show M = h by rw [HM.out]; exact bmax_left hm]
   obtain ⟨JXl, JX0, JX1, JX2, JX3⟩ := JX.k
   obtain ⟨JYl, JY0, JY1, JY2, JY3⟩ := JY.k
   obtain ⟨Jal, Ja0, Ja1, Ja2, Ja3⟩ := Ja.k
   obtain ⟨Jbl, Jb0, Jb1, Jb2, Jb3⟩ := Jb.k
   obtain ⟨JNl, JN0, JN1, JN2, JN3⟩ := JN.k
   have lb := B.size
   go_wp2
   exact cutEnd ⟨by kernel_rfl, JX, JY, Ja, Jb, JN, B⟩ (by kernel_rfl)
 clear JX JY Ja Jb JN B
 intro w7 u16 u49 u50 u51 u52 u53 u54 u55 u56 hF
 obtain ⟨e16, JX, JY, Ja, Jb, JN, B⟩ := hF
 obtain rfl : u16 = _ := e16
 simp only [sets, s1, s2, s3]
 try simp only [Exit.then]
 have UM : Hid ((ub M : Int) = (M.toNat : Int)) := rfl
 refine wp_seq ?_
 refine cutS [57, 58, 59, 60, 61, 62] (fun us W' => FBx w W' ((v, m), l, h) ((v', m'), l', h') (sc0) (sc0) (SC W' (gn) (sc0) ∧ Below w.heap.size w W')) ?_ ?_
 ·
  cases c
  ·
   have d1 : ¬ (4294967296 : Int) ≤ ub M := by rw [UM.out]; intro q; exact hH.out (.inl ⟨rfl, by omega⟩)
   go_wp2
   exact cutEnd ⟨JX, JY, Ja, Jb, JN, B⟩ (by kernel_rfl)
  ·
   go_wp2
   exact cutEnd ⟨JX, JY, Ja, Jb, JN, B⟩ (by kernel_rfl)
 clear JX JY Ja Jb JN B
 intro w8 u57 u58 u59 u60 u61 u62 hF
 obtain ⟨JX, JY, Ja, Jb, JN, B⟩ := hF
 simp only [sets, s1, s2, s3]
 try simp only [Exit.then]
 refine wp_seq ?_
 refine cutS [0, 65, 66, 67, 68, 69, 70, 71, 72, 73, 74, 75, 76, 77, 78, 79, 80, 81, 82, 83, 84, 85] (fun us W' => us.getD 0 undef = .int .i64 10 ∧ FBx w W' ((v, m), l, h) ((v', m'), l', h') (sc0) (sc0) (SC W' (gn) (sc0) ∧ Below w.heap.size w W')) ?_ ?_
 ·
  by_cases he : unsI q0 = q0
  ·
   have hb1 : (unsI q0 != q0) = false := by simpa using he
   have hq9 : Hid (q0 = 10) := hid (he.symm.trans HQ.out)
   clear he
   obtain ⟨JXl, JX0, JX1, JX2, JX3⟩ := JX.k
   obtain ⟨JYl, JY0, JY1, JY2, JY3⟩ := JY.k
   obtain ⟨Jal, Ja0, Ja1, Ja2, Ja3⟩ := Ja.k
   obtain ⟨Jbl, Jb0, Jb1, Jb2, Jb3⟩ := Jb.k
   obtain ⟨JNl, JN0, JN1, JN2, JN3⟩ := JN.k
   have lb := B.size
   go_wp2_with fail
   refine (XP.out _).mono ?_
   rintro e wa ⟨rfl, z⟩
   clear JX0 JX1 JX2 JX3 JXl JY0 JY1 JY2 JY3 JYl Ja0 Ja1 Ja2 Ja3 Jal Jb0 Jb1 Jb2 Jb3 Jbl JN0 JN1 JN2 JN3 JNl lb
   replace JX := JX.below z
   replace JY := JY.below z
   replace Ja := Ja.below z
   replace Jb := Jb.below z
   replace JN := JN.below z
   replace B := below_next B z
   clear z
   go_wp2
   rw [hq9.out]
   exact cutEnd ⟨by kernel_rfl, JX, JY, Ja, Jb, JN, B⟩ (by kernel_rfl)
  ·
   have hb1 : (unsI q0 != q0) = true := by simpa using he
   cases c
   ·
    have d2 : decide ((2147483648 : Int) ≤ ub M) = false := decide_eq_false (by rw [UM.out]; intro q; exact hH.out (.inr ⟨he, .inr ⟨rfl, by omega⟩⟩))
    clear he
    obtain ⟨JXl, JX0, JX1, JX2, JX3⟩ := JX.k
    obtain ⟨JYl, JY0, JY1, JY2, JY3⟩ := JY.k
    obtain ⟨Jal, Ja0, Ja1, Ja2, Ja3⟩ := Ja.k
    obtain ⟨Jbl, Jb0, Jb1, Jb2, Jb3⟩ := Jb.k
    obtain ⟨JNl, JN0, JN1, JN2, JN3⟩ := JN.k
    have lb := B.size
    go_wp2_with fail
    refine (XP.out _).mono ?_
    rintro e wa ⟨rfl, z⟩
    clear JX0 JX1 JX2 JX3 JXl JY0 JY1 JY2 JY3 JYl Ja0 Ja1 Ja2 Ja3 Jal Jb0 Jb1 Jb2 Jb3 Jbl JN0 JN1 JN2 JN3 JNl lb
    replace JX := JX.below z
    replace JY := JY.below z
    replace Ja := Ja.below z
    replace Jb := Jb.below z
    replace JN := JN.below z
    replace B := below_next B z
    clear z
    obtain ⟨JXl, JX0, JX1, JX2, JX3⟩ := JX.k
    obtain ⟨JYl, JY0, JY1, JY2, JY3⟩ := JY.k
    obtain ⟨Jal, Ja0, Ja1, Ja2, Ja3⟩ := Ja.k
    obtain ⟨Jbl, Jb0, Jb1, Jb2, Jb3⟩ := Jb.k
    obtain ⟨JNl, JN0, JN1, JN2, JN3⟩ := JN.k
    have lb := B.size
    go_wp2_with fail
    refine (XP.out _).mono ?_
    rintro e wb ⟨rfl, z⟩
    clear JX0 JX1 JX2 JX3 JXl JY0 JY1 JY2 JY3 JYl Ja0 Ja1 Ja2 Ja3 Jal Jb0 Jb1 Jb2 Jb3 Jbl JN0 JN1 JN2 JN3 JNl lb
    replace JX := JX.below z
    replace JY := JY.below z
    replace Ja := Ja.below z
    replace Jb := Jb.below z
    replace JN := JN.below z
    replace B := below_next B z
    clear z
    go_wp2
    rw [HQ.out]
    exact cutEnd ⟨by kernel_rfl, JX, JY, Ja, Jb, JN, B⟩ (by kernel_rfl)
   ·
    have d2 : decide ((9223372036854775808 : Int) ≤ ub M) = false := decide_eq_false (by rw [UM.out]; intro q; exact hH.out (.inr ⟨he, .inl ⟨rfl, by omega⟩⟩))
    clear he
    obtain ⟨JXl, JX0, JX1, JX2, JX3⟩ := JX.k
    obtain ⟨JYl, JY0, JY1, JY2, JY3⟩ := JY.k
    obtain ⟨Jal, Ja0, Ja1, Ja2, Ja3⟩ := Ja.k
    obtain ⟨Jbl, Jb0, Jb1, Jb2, Jb3⟩ := Jb.k
    obtain ⟨JNl, JN0, JN1, JN2, JN3⟩ := JN.k
    have lb := B.size
    go_wp2_with fail
    refine (XP.out _).mono ?_
    rintro e wa ⟨rfl, z⟩
    clear JX0 JX1 JX2 JX3 JXl JY0 JY1 JY2 JY3 JYl Ja0 Ja1 Ja2 Ja3 Jal Jb0 Jb1 Jb2 Jb3 Jbl JN0 JN1 JN2 JN3 JNl lb
    replace JX := JX.below z
    replace JY := JY.below z
    replace Ja := Ja.below z
    replace Jb := Jb.below z
    replace JN := JN.below z
    replace B := below_next B z
    clear z
    obtain ⟨JXl, JX0, JX1, JX2, JX3⟩ := JX.k
    obtain ⟨JYl, JY0, JY1, JY2, JY3⟩ := JY.k
    obtain ⟨Jal, Ja0, Ja1, Ja2, Ja3⟩ := Ja.k
    obtain ⟨Jbl, Jb0, Jb1, Jb2, Jb3⟩ := Jb.k
    obtain ⟨JNl, JN0, JN1, JN2, JN3⟩ := JN.k
    have lb := B.size
    go_wp2_with fail
    refine (XP.out _).mono ?_
    rintro e wb ⟨rfl, z⟩
    clear JX0 JX1 JX2 JX3 JXl JY0 JY1 JY2 JY3 JYl Ja0 Ja1 Ja2 Ja3 Jal Jb0 Jb1 Jb2 Jb3 Jbl JN0 JN1 JN2 JN3 JNl lb
    replace JX := JX.below z
    replace JY := JY.below z
    replace Ja := Ja.below z
    replace Jb := Jb.below z
    replace JN := JN.below z
    replace B := below_next B z
    clear z
    go_wp2
    rw [HQ.out]
    exact cutEnd ⟨by kernel_rfl, JX, JY, Ja, Jb, JN, B⟩ (by kernel_rfl)
 clear JX JY Ja Jb JN B
 intro w9 u0 u65 u66 u67 u68 u69 u70 u71 u72 u73 u74 u75 u76 u77 u78 u79 u80 u81 u82 u83 u84 u85 hF
 obtain ⟨e0, JX, JY, Ja, Jb, JN, B⟩ := hF
 obtain rfl : u0 = _ := e0
 simp only [sets, s1, s2, s3]
 try simp only [Exit.then]
 clear UM hH HQ XP X1 X2 X3 XO
 refine wp_seq ?_
 apply cutGG (F := fun g h_ W' => SC W' g ((v, m), l, h) ∧ SC W' h_ ((v', m'), l', h') ∧ (gn < g ∧ gn < h_ ∧ g ≠ h_) ∧ SC W' (w.heap.size) ((v, m), l, h) ∧ SC W' (w.heap.size + 1) ((v', m'), l', h') ∧ SC W' (w.heap.size + 1 + 1) (sc0) ∧ SC W' (w.heap.size + 1 + 1 + 1) (sc0) ∧ SC W' (gn) (sc0) ∧ Below w.heap.size w W')
 ·
  obtain ⟨JXl, JX0, JX1, JX2, JX3⟩ := JX.k
  obtain ⟨JYl, JY0, JY1, JY2, JY3⟩ := JY.k
  obtain ⟨Jal, Ja0, Ja1, Ja2, Ja3⟩ := Ja.k
  obtain ⟨Jbl, Jb0, Jb1, Jb2, Jb3⟩ := Jb.k
  obtain ⟨JNl, JN0, JN1, JN2, JN3⟩ := JN.k
  have lb := B.size
  have gl := JN.lt
  go_region
  all_goals
   obtain ⟨h2, hh2⟩ : ∃ h_, w9.heap.size + 1 = h_ := ⟨_, rfl⟩
   obtain ⟨g2, hg2⟩ : ∃ g, w9.heap.size = g := ⟨_, rfl⟩
   first
    | (refine ⟨g2, h2, ⟨?_, ?_, ⟨by omega, by omega, by omega⟩, ((JX.alloc _).alloc _).below (below_dr _), ((JY.alloc _).alloc _).below (below_dr _), ((Ja.alloc _).alloc _).below (below_dr _), ((Jb.alloc _).alloc _).below (below_dr _), ((JN.alloc _).alloc _).below (below_dr _), below_next (bel_alloc (bel_alloc B)) (below_dr _)⟩, ?_⟩
       · rw [← hg2]; exact (twoB ((v, m), l, h) ((v', m'), l', h') _ _ rfl rfl).1
       · rw [← hh2]; exact (twoB ((v, m), l, h) ((v', m'), l', h') _ _ rfl rfl).2
       · rw [hh2, hg2])
    | (refine ⟨h2, g2, ⟨?_, ?_, ⟨by omega, by omega, by omega⟩, ((JX.alloc _).alloc _).below (below_dr _), ((JY.alloc _).alloc _).below (below_dr _), ((Ja.alloc _).alloc _).below (below_dr _), ((Jb.alloc _).alloc _).below (below_dr _), ((JN.alloc _).alloc _).below (below_dr _), below_next (bel_alloc (bel_alloc B)) (below_dr _)⟩, ?_⟩
       · rw [← hh2]; exact (twoB ((v', m'), l', h') ((v, m), l, h) _ _ rfl rfl).2
       · rw [← hg2]; exact (twoB ((v', m'), l', h') ((v, m), l, h) _ _ rfl rfl).1
       · rw [hh2, hg2])
 clear JX JY Ja Jb JN B
 intro gm gk w40 ⟨Jm, Jn, ⟨lm, lk, lmk⟩, JX, JY, Ja, Jb, JN, B⟩
 try simp only [Exit.then]
 refine wp_seq ?_
 refine cutS [19, 20] (fun us W' => us.getD 0 undef = .bool true ∧ us.getD 1 undef = .bool true ∧ FBx w W' ((v, m), l, h) ((v', m'), l', h') (sc0) (sc0) (SC W' (gn) (sc0) ∧ SC W' (gm) ((v, m), l, h) ∧ SC W' (gk) ((v', m'), l', h') ∧ Below w.heap.size w W')) ?_ ?_
 ·
  go_wp2
  exact cutEnd ⟨by kernel_rfl, by kernel_rfl, JX, JY, Ja, Jb, JN, Jm, Jn, B⟩ (by kernel_rfl)
 clear JX JY Ja Jb JN Jm Jn B
 intro w10 u19 u20 hF
 obtain ⟨e19, e20, JX, JY, Ja, Jb, JN, Jm, Jn, B⟩ := hF
 obtain rfl : u19 = _ := e19
 obtain rfl : u20 = _ := e20
 simp only [sets, s1, s2, s3]
 try simp only [Exit.then]
 have f1 : (ub l == 18446744073709551615) = false := by rw [beq_eq_false_iff_ne]; exact fun q => HT.out (.inl (ub_inj.1 q))
 have f2 : (ub h' == 0) = false := by rw [beq_eq_false_iff_ne]; exact fun q => HT.out (.inr (ub_inj.1 q))
 clear HT
 refine wp_seq ?_
 refine cutS [19, 20, 88, 89, 90, 98, 99, 120, 121, 152, 153, 170, 171, 172, 173, 174, 175, 176, 177, 178, 179, 180, 181, 184, 185, 186, 187, 188, 189, 190, 191, 192, 193, 194, 195, 196, 197, 198, 199, 200, 201] (fun us W' => us.getD 0 undef = .bool k1 ∧ us.getD 1 undef = .bool k2 ∧ FBx w W' ((v, m), l, h) ((v', m'), l', h') (sc0) (sc0) (SC W' (gn) (sc0) ∧ SC W' (gm) (Z1) ∧ SC W' (gk) (Z2) ∧ Below w.heap.size w W')) ?_ ?_
 ·
  obtain ⟨JXl, JX0, JX1, JX2, JX3⟩ := JX.k
  obtain ⟨JYl, JY0, JY1, JY2, JY3⟩ := JY.k
  obtain ⟨Jal, Ja0, Ja1, Ja2, Ja3⟩ := Ja.k
  obtain ⟨Jbl, Jb0, Jb1, Jb2, Jb3⟩ := Jb.k
  obtain ⟨JNl, JN0, JN1, JN2, JN3⟩ := JN.k
  obtain ⟨Jml, Jm0, Jm1, Jm2, Jm3⟩ := Jm.k
  obtain ⟨Jnl, Jn0, Jn1, Jn2, Jn3⟩ := Jn.k
  have lb := B.size
  obtain ⟨Jmf0, Jmf1, Jmf2, Jmf3⟩ := Jm.f
  obtain ⟨Jnf0, Jnf1, Jnf2, Jnf3⟩ := Jn.f
  go_wp2_with fail
  refine (XM.out _).mono ?_
  rintro e wa ⟨rfl, z⟩
  clear JX0 JX1 JX2 JX3 JXl JY0 JY1 JY2 JY3 JYl Ja0 Ja1 Ja2 Ja3 Jal Jb0 Jb1 Jb2 Jb3 Jbl JN0 JN1 JN2 JN3 JNl Jm0 Jm1 Jm2 Jm3 Jml Jn0 Jn1 Jn2 Jn3 Jnl lb
  clear Jmf0 Jmf1 Jmf2 Jmf3 Jnf0 Jnf1 Jnf2 Jnf3
  replace JX := JX.below z
  replace JY := JY.below z
  replace Ja := Ja.below z
  replace Jb := Jb.below z
  replace JN := JN.below z
  replace Jm := Jm.below z
  replace Jn := Jn.below z
  replace B := below_next B z
  clear z
  obtain ⟨JXl, JX0, JX1, JX2, JX3⟩ := JX.k
  obtain ⟨JYl, JY0, JY1, JY2, JY3⟩ := JY.k
  obtain ⟨Jal, Ja0, Ja1, Ja2, Ja3⟩ := Ja.k
  obtain ⟨Jbl, Jb0, Jb1, Jb2, Jb3⟩ := Jb.k
  obtain ⟨JNl, JN0, JN1, JN2, JN3⟩ := JN.k
  obtain ⟨Jml, Jm0, Jm1, Jm2, Jm3⟩ := Jm.k
  obtain ⟨Jnl, Jn0, Jn1, Jn2, Jn3⟩ := Jn.k
  have lb := B.size
  obtain ⟨Jmf0, Jmf1, Jmf2, Jmf3⟩ := Jm.f
  obtain ⟨Jnf0, Jnf1, Jnf2, Jnf3⟩ := Jn.f
  go_wp2_with fail
  refine (XW.out _).mono ?_
  rintro e wb ⟨rfl, z⟩
  clear JX0 JX1 JX2 JX3 JXl JY0 JY1 JY2 JY3 JYl Ja0 Ja1 Ja2 Ja3 Jal Jb0 Jb1 Jb2 Jb3 Jbl JN0 JN1 JN2 JN3 JNl Jm0 Jm1 Jm2 Jm3 Jml Jn0 Jn1 Jn2 Jn3 Jnl lb
  clear Jmf0 Jmf1 Jmf2 Jmf3 Jnf0 Jnf1 Jnf2 Jnf3
  have JXx := (JX.other (c := gm) (by omega) (Z1)).below z
  have JYx := (JY.other (c := gm) (by omega) (Z1)).below z
  have Jax := (Ja.other (c := gm) (by omega) (Z1)).below z
  have Jbx := (Jb.other (c := gm) (by omega) (Z1)).below z
  have JNx := (JN.other (c := gm) (by omega) (Z1)).below z
  have Jmx := (Jm.put (Z1)).below z
  have Jnx := (Jn.other (c := gm) (by omega) (Z1)).below z
  have Bx := below_next (putS_below (Z1) B (by omega : w.heap.size ≤ gm)) z
  clear JX JY Ja Jb JN Jm Jn B z
  have JX := JXx
  clear JXx
  have JY := JYx
  clear JYx
  have Ja := Jax
  clear Jax
  have Jb := Jbx
  clear Jbx
  have JN := JNx
  clear JNx
  have Jm := Jmx
  clear Jmx
  have Jn := Jnx
  clear Jnx
  have B := Bx
  clear Bx
  obtain ⟨JXl, JX0, JX1, JX2, JX3⟩ := JX.k
  obtain ⟨JYl, JY0, JY1, JY2, JY3⟩ := JY.k
  obtain ⟨Jal, Ja0, Ja1, Ja2, Ja3⟩ := Ja.k
  obtain ⟨Jbl, Jb0, Jb1, Jb2, Jb3⟩ := Jb.k
  obtain ⟨JNl, JN0, JN1, JN2, JN3⟩ := JN.k
  obtain ⟨Jml, Jm0, Jm1, Jm2, Jm3⟩ := Jm.k
  obtain ⟨Jnl, Jn0, Jn1, Jn2, Jn3⟩ := Jn.k
  have lb := B.size
  obtain ⟨Jmf0, Jmf1, Jmf2, Jmf3⟩ := Jm.f
  obtain ⟨Jnf0, Jnf1, Jnf2, Jnf3⟩ := Jn.f
  go_wp2
  exact cutEnd ⟨by kernel_rfl, by kernel_rfl, (JX.other (c := gk) (by omega) (Z2)), (JY.other (c := gk) (by omega) (Z2)), (Ja.other (c := gk) (by omega) (Z2)), (Jb.other (c := gk) (by omega) (Z2)), (JN.other (c := gk) (by omega) (Z2)), (Jm.other (c := gk) (by omega) (Z2)), (Jn.put (Z2)), (putS_below (Z2) B (by omega : w.heap.size ≤ gk))⟩ (by kernel_rfl)
 clear JX JY Ja Jb JN Jm Jn B
 intro w11 u19 u20 u88 u89 u90 u98 u99 u120 u121 u152 u153 u170 u171 u172 u173 u174 u175 u176 u177 u178 u179 u180 u181 u184 u185 u186 u187 u188 u189 u190 u191 u192 u193 u194 u195 u196 u197 u198 u199 u200 u201 hF
 obtain ⟨e19, e20, JX, JY, Ja, Jb, JN, Jm, Jn, B⟩ := hF
 obtain rfl : u19 = _ := e19
 obtain rfl : u20 = _ := e20
 simp only [sets, s1, s2, s3]
 try simp only [Exit.then]
 clear XM XW f1 f2
 cases k1
 ·
  rw [Bool.false_and, if_neg (by decide)]
  obtain ⟨JXl, JX0, JX1, JX2, JX3⟩ := JX.k
  obtain ⟨JYl, JY0, JY1, JY2, JY3⟩ := JY.k
  obtain ⟨Jal, Ja0, Ja1, Ja2, Ja3, Jaf0, Jaf1, Jaf2, Jaf3⟩ := id Ja
  obtain ⟨Jbl, Jb0, Jb1, Jb2, Jb3, Jbf0, Jbf1, Jbf2, Jbf3⟩ := id Jb
  obtain ⟨JNl, JN0, JN1, JN2, JN3⟩ := JN.k
  obtain ⟨Jml, Jm0, Jm1, Jm2, Jm3, Jmf0, Jmf1, Jmf2, Jmf3⟩ := id Jm
  obtain ⟨Jnl, Jn0, Jn1, Jn2, Jn3, Jnf0, Jnf1, Jnf2, Jnf3⟩ := id Jn
  have lb := B.size
  go_wp2_with fail
  clear JX0 JX1 JX2 JX3 JXl JY0 JY1 JY2 JY3 JYl Ja0 Ja1 Ja2 Ja3 Jal Jaf0 Jaf1 Jaf2 Jaf3 Jb0 Jb1 Jb2 Jb3 Jbl Jbf0 Jbf1 Jbf2 Jbf3 JN0 JN1 JN2 JN3 JNl Jm0 Jm1 Jm2 Jm3 Jml Jmf0 Jmf1 Jmf2 Jmf3 Jn0 Jn1 Jn2 Jn3 Jnl Jnf0 Jnf1 Jnf2 Jnf3 lb
  obtain ⟨JXdl, JXd0, JXd1, JXd2, JXd3, JXdf0, JXdf1, JXdf2, JXdf3⟩ := id JX
  obtain ⟨JYdl, JYd0, JYd1, JYd2, JYd3, JYdf0, JYdf1, JYdf2, JYdf3⟩ := id JY
  obtain ⟨Jadl, Jad0, Jad1, Jad2, Jad3, Jadf0, Jadf1, Jadf2, Jadf3⟩ := id Ja
  obtain ⟨Jbdl, Jbd0, Jbd1, Jbd2, Jbd3, Jbdf0, Jbdf1, Jbdf2, Jbdf3⟩ := id Jb
  obtain ⟨JNdl, JNd0, JNd1, JNd2, JNd3, JNdf0, JNdf1, JNdf2, JNdf3⟩ := id JN
  obtain ⟨Jmdl, Jmd0, Jmd1, Jmd2, Jmd3, Jmdf0, Jmdf1, Jmdf2, Jmdf3⟩ := id Jm
  obtain ⟨Jndl, Jnd0, Jnd1, Jnd2, Jnd3, Jndf0, Jndf1, Jndf2, Jndf3⟩ := id Jn
  have ld := B.size
  apply cutF (F := fun W' => SC W' (w.heap.size) ((v, m), l, h) ∧ SC W' (w.heap.size + 1) ((v', m'), l', h') ∧ SC W' (w.heap.size + 1 + 1) (sc0) ∧ SC W' (w.heap.size + 1 + 1 + 1) (sc0) ∧ SC W' (gn) sc0 ∧ SC W' (gm) Z1 ∧ SC W' (gk) Z2 ∧ Below w.heap.size w W')
  ·
   go_region
   all_goals exact ⟨⟨(((JX.other (c := w.heap.size + 1 + 1) (by omega) (sc0)).other (c := w.heap.size + 1 + 1 + 1) (by omega) (sc0)).below (below_dr _)), (((JY.other (c := w.heap.size + 1 + 1) (by omega) (sc0)).other (c := w.heap.size + 1 + 1 + 1) (by omega) (sc0)).below (below_dr _)), (((Ja.put (sc0)).other (c := w.heap.size + 1 + 1 + 1) (by omega) (sc0)).below (below_dr _)), (((Jb.other (c := w.heap.size + 1 + 1) (by omega) (sc0)).put (sc0)).below (below_dr _)), (((JN.other (c := w.heap.size + 1 + 1) (by omega) (sc0)).other (c := w.heap.size + 1 + 1 + 1) (by omega) (sc0)).below (below_dr _)), (((Jm.other (c := w.heap.size + 1 + 1) (by omega) (sc0)).other (c := w.heap.size + 1 + 1 + 1) (by omega) (sc0)).below (below_dr _)), (((Jn.other (c := w.heap.size + 1 + 1) (by omega) (sc0)).other (c := w.heap.size + 1 + 1 + 1) (by omega) (sc0)).below (below_dr _)), below_next (putS_below (sc0) (putS_below (sc0) B (by omega : w.heap.size ≤ w.heap.size + 1 + 1)) (by omega : w.heap.size ≤ w.heap.size + 1 + 1 + 1)) (below_dr _)⟩, rfl⟩
  clear JXd0 JXd1 JXd2 JXd3 JXdl JXdf0 JXdf1 JXdf2 JXdf3 JYd0 JYd1 JYd2 JYd3 JYdl JYdf0 JYdf1 JYdf2 JYdf3 Jad0 Jad1 Jad2 Jad3 Jadl Jadf0 Jadf1 Jadf2 Jadf3 Jbd0 Jbd1 Jbd2 Jbd3 Jbdl Jbdf0 Jbdf1 Jbdf2 Jbdf3 JNd0 JNd1 JNd2 JNd3 JNdl JNdf0 JNdf1 JNdf2 JNdf3 Jmd0 Jmd1 Jmd2 Jmd3 Jmdl Jmdf0 Jmdf1 Jmdf2 Jmdf3 Jnd0 Jnd1 Jnd2 Jnd3 Jndl Jndf0 Jndf1 Jndf2 Jndf3 ld
  clear JX JY Ja Jb JN Jm Jn B
  intro w61 ⟨JX, JY, Ja, Jb, JN, Jm, Jn, B⟩
  obtain ⟨JXl, JX0, JX1, JX2, JX3⟩ := JX.k
  obtain ⟨JYl, JY0, JY1, JY2, JY3⟩ := JY.k
  obtain ⟨Jal, Ja0, Ja1, Ja2, Ja3, Jaf0, Jaf1, Jaf2, Jaf3⟩ := id Ja
  obtain ⟨Jbl, Jb0, Jb1, Jb2, Jb3, Jbf0, Jbf1, Jbf2, Jbf3⟩ := id Jb
  obtain ⟨JNl, JN0, JN1, JN2, JN3⟩ := JN.k
  obtain ⟨Jml, Jm0, Jm1, Jm2, Jm3, Jmf0, Jmf1, Jmf2, Jmf3⟩ := id Jm
  obtain ⟨Jnl, Jn0, Jn1, Jn2, Jn3, Jnf0, Jnf1, Jnf2, Jnf3⟩ := id Jn
  have lb := B.size
  go_wp2
  exact bodyPost_ret (v := .tuple #[sv sc0, sv sc0, .bool false]) (by simp [results, Tryz.results30, go_sem, JX.k, JY.k, Ja.k, Jb.k, JN.k, Jm.k, Jn.k]; try first | rfl | exact ⟨rfl, rfl⟩) rfl ⟨rfl, B⟩
 rw [Bool.true_and]
 cases k2
 ·
  rw [if_neg (by decide)]
  obtain ⟨JXl, JX0, JX1, JX2, JX3⟩ := JX.k
  obtain ⟨JYl, JY0, JY1, JY2, JY3⟩ := JY.k
  obtain ⟨Jal, Ja0, Ja1, Ja2, Ja3, Jaf0, Jaf1, Jaf2, Jaf3⟩ := id Ja
  obtain ⟨Jbl, Jb0, Jb1, Jb2, Jb3, Jbf0, Jbf1, Jbf2, Jbf3⟩ := id Jb
  obtain ⟨JNl, JN0, JN1, JN2, JN3⟩ := JN.k
  obtain ⟨Jml, Jm0, Jm1, Jm2, Jm3, Jmf0, Jmf1, Jmf2, Jmf3⟩ := id Jm
  obtain ⟨Jnl, Jn0, Jn1, Jn2, Jn3, Jnf0, Jnf1, Jnf2, Jnf3⟩ := id Jn
  have lb := B.size
  go_wp2_with fail
  clear JX0 JX1 JX2 JX3 JXl JY0 JY1 JY2 JY3 JYl Ja0 Ja1 Ja2 Ja3 Jal Jaf0 Jaf1 Jaf2 Jaf3 Jb0 Jb1 Jb2 Jb3 Jbl Jbf0 Jbf1 Jbf2 Jbf3 JN0 JN1 JN2 JN3 JNl Jm0 Jm1 Jm2 Jm3 Jml Jmf0 Jmf1 Jmf2 Jmf3 Jn0 Jn1 Jn2 Jn3 Jnl Jnf0 Jnf1 Jnf2 Jnf3 lb
  obtain ⟨JXdl, JXd0, JXd1, JXd2, JXd3, JXdf0, JXdf1, JXdf2, JXdf3⟩ := id JX
  obtain ⟨JYdl, JYd0, JYd1, JYd2, JYd3, JYdf0, JYdf1, JYdf2, JYdf3⟩ := id JY
  obtain ⟨Jadl, Jad0, Jad1, Jad2, Jad3, Jadf0, Jadf1, Jadf2, Jadf3⟩ := id Ja
  obtain ⟨Jbdl, Jbd0, Jbd1, Jbd2, Jbd3, Jbdf0, Jbdf1, Jbdf2, Jbdf3⟩ := id Jb
  obtain ⟨JNdl, JNd0, JNd1, JNd2, JNd3, JNdf0, JNdf1, JNdf2, JNdf3⟩ := id JN
  obtain ⟨Jmdl, Jmd0, Jmd1, Jmd2, Jmd3, Jmdf0, Jmdf1, Jmdf2, Jmdf3⟩ := id Jm
  obtain ⟨Jndl, Jnd0, Jnd1, Jnd2, Jnd3, Jndf0, Jndf1, Jndf2, Jndf3⟩ := id Jn
  have ld := B.size
  apply cutF (F := fun W' => SC W' (w.heap.size) ((v, m), l, h) ∧ SC W' (w.heap.size + 1) ((v', m'), l', h') ∧ SC W' (w.heap.size + 1 + 1) (sc0) ∧ SC W' (w.heap.size + 1 + 1 + 1) (sc0) ∧ SC W' (gn) sc0 ∧ SC W' (gm) Z1 ∧ SC W' (gk) Z2 ∧ Below w.heap.size w W')
  ·
   go_region
   all_goals exact ⟨⟨(((JX.other (c := w.heap.size + 1 + 1) (by omega) (sc0)).other (c := w.heap.size + 1 + 1 + 1) (by omega) (sc0)).below (below_dr _)), (((JY.other (c := w.heap.size + 1 + 1) (by omega) (sc0)).other (c := w.heap.size + 1 + 1 + 1) (by omega) (sc0)).below (below_dr _)), (((Ja.put (sc0)).other (c := w.heap.size + 1 + 1 + 1) (by omega) (sc0)).below (below_dr _)), (((Jb.other (c := w.heap.size + 1 + 1) (by omega) (sc0)).put (sc0)).below (below_dr _)), (((JN.other (c := w.heap.size + 1 + 1) (by omega) (sc0)).other (c := w.heap.size + 1 + 1 + 1) (by omega) (sc0)).below (below_dr _)), (((Jm.other (c := w.heap.size + 1 + 1) (by omega) (sc0)).other (c := w.heap.size + 1 + 1 + 1) (by omega) (sc0)).below (below_dr _)), (((Jn.other (c := w.heap.size + 1 + 1) (by omega) (sc0)).other (c := w.heap.size + 1 + 1 + 1) (by omega) (sc0)).below (below_dr _)), below_next (putS_below (sc0) (putS_below (sc0) B (by omega : w.heap.size ≤ w.heap.size + 1 + 1)) (by omega : w.heap.size ≤ w.heap.size + 1 + 1 + 1)) (below_dr _)⟩, rfl⟩
  clear JXd0 JXd1 JXd2 JXd3 JXdl JXdf0 JXdf1 JXdf2 JXdf3 JYd0 JYd1 JYd2 JYd3 JYdl JYdf0 JYdf1 JYdf2 JYdf3 Jad0 Jad1 Jad2 Jad3 Jadl Jadf0 Jadf1 Jadf2 Jadf3 Jbd0 Jbd1 Jbd2 Jbd3 Jbdl Jbdf0 Jbdf1 Jbdf2 Jbdf3 JNd0 JNd1 JNd2 JNd3 JNdl JNdf0 JNdf1 JNdf2 JNdf3 Jmd0 Jmd1 Jmd2 Jmd3 Jmdl Jmdf0 Jmdf1 Jmdf2 Jmdf3 Jnd0 Jnd1 Jnd2 Jnd3 Jndl Jndf0 Jndf1 Jndf2 Jndf3 ld
  clear JX JY Ja Jb JN Jm Jn B
  intro w61 ⟨JX, JY, Ja, Jb, JN, Jm, Jn, B⟩
  obtain ⟨JXl, JX0, JX1, JX2, JX3⟩ := JX.k
  obtain ⟨JYl, JY0, JY1, JY2, JY3⟩ := JY.k
  obtain ⟨Jal, Ja0, Ja1, Ja2, Ja3, Jaf0, Jaf1, Jaf2, Jaf3⟩ := id Ja
  obtain ⟨Jbl, Jb0, Jb1, Jb2, Jb3, Jbf0, Jbf1, Jbf2, Jbf3⟩ := id Jb
  obtain ⟨JNl, JN0, JN1, JN2, JN3⟩ := JN.k
  obtain ⟨Jml, Jm0, Jm1, Jm2, Jm3, Jmf0, Jmf1, Jmf2, Jmf3⟩ := id Jm
  obtain ⟨Jnl, Jn0, Jn1, Jn2, Jn3, Jnf0, Jnf1, Jnf2, Jnf3⟩ := id Jn
  have lb := B.size
  go_wp2
  exact bodyPost_ret (v := .tuple #[sv sc0, sv sc0, .bool false]) (by simp [results, Tryz.results30, go_sem, JX.k, JY.k, Ja.k, Jb.k, JN.k, Jm.k, Jn.k]; try first | rfl | exact ⟨rfl, rfl⟩) rfl ⟨rfl, B⟩
 rw [if_pos rfl]
 obtain ⟨JXl, JX0, JX1, JX2, JX3⟩ := JX.k
 obtain ⟨JYl, JY0, JY1, JY2, JY3⟩ := JY.k
 obtain ⟨Jal, Ja0, Ja1, Ja2, Ja3, Jaf0, Jaf1, Jaf2, Jaf3⟩ := id Ja
 obtain ⟨Jbl, Jb0, Jb1, Jb2, Jb3, Jbf0, Jbf1, Jbf2, Jbf3⟩ := id Jb
 obtain ⟨JNl, JN0, JN1, JN2, JN3⟩ := JN.k
 obtain ⟨Jml, Jm0, Jm1, Jm2, Jm3, Jmf0, Jmf1, Jmf2, Jmf3⟩ := id Jm
 obtain ⟨Jnl, Jn0, Jn1, Jn2, Jn3, Jnf0, Jnf1, Jnf2, Jnf3⟩ := id Jn
 have lb := B.size
 go_wp2_with fail
 clear JX0 JX1 JX2 JX3 JXl JY0 JY1 JY2 JY3 JYl Ja0 Ja1 Ja2 Ja3 Jal Jaf0 Jaf1 Jaf2 Jaf3 Jb0 Jb1 Jb2 Jb3 Jbl Jbf0 Jbf1 Jbf2 Jbf3 JN0 JN1 JN2 JN3 JNl Jm0 Jm1 Jm2 Jm3 Jml Jmf0 Jmf1 Jmf2 Jmf3 Jn0 Jn1 Jn2 Jn3 Jnl Jnf0 Jnf1 Jnf2 Jnf3 lb
 obtain ⟨JXdl, JXd0, JXd1, JXd2, JXd3, JXdf0, JXdf1, JXdf2, JXdf3⟩ := id JX
 obtain ⟨JYdl, JYd0, JYd1, JYd2, JYd3, JYdf0, JYdf1, JYdf2, JYdf3⟩ := id JY
 obtain ⟨Jadl, Jad0, Jad1, Jad2, Jad3, Jadf0, Jadf1, Jadf2, Jadf3⟩ := id Ja
 obtain ⟨Jbdl, Jbd0, Jbd1, Jbd2, Jbd3, Jbdf0, Jbdf1, Jbdf2, Jbdf3⟩ := id Jb
 obtain ⟨JNdl, JNd0, JNd1, JNd2, JNd3, JNdf0, JNdf1, JNdf2, JNdf3⟩ := id JN
 obtain ⟨Jmdl, Jmd0, Jmd1, Jmd2, Jmd3, Jmdf0, Jmdf1, Jmdf2, Jmdf3⟩ := id Jm
 obtain ⟨Jndl, Jnd0, Jnd1, Jnd2, Jnd3, Jndf0, Jndf1, Jndf2, Jndf3⟩ := id Jn
 have ld := B.size
 apply cutF (F := fun W' => SC W' (w.heap.size) ((v, m), l, h) ∧ SC W' (w.heap.size + 1) ((v', m'), l', h') ∧ SC W' (w.heap.size + 1 + 1) (Z1) ∧ SC W' (w.heap.size + 1 + 1 + 1) (Z2) ∧ SC W' (gn) sc0 ∧ SC W' (gm) Z1 ∧ SC W' (gk) Z2 ∧ Below w.heap.size w W')
 ·
  go_region
  all_goals exact ⟨⟨(((JX.other (c := w.heap.size + 1 + 1) (by omega) (Z1)).other (c := w.heap.size + 1 + 1 + 1) (by omega) (Z2)).below (below_dr _)), (((JY.other (c := w.heap.size + 1 + 1) (by omega) (Z1)).other (c := w.heap.size + 1 + 1 + 1) (by omega) (Z2)).below (below_dr _)), (((Ja.put (Z1)).other (c := w.heap.size + 1 + 1 + 1) (by omega) (Z2)).below (below_dr _)), (((Jb.other (c := w.heap.size + 1 + 1) (by omega) (Z1)).put (Z2)).below (below_dr _)), (((JN.other (c := w.heap.size + 1 + 1) (by omega) (Z1)).other (c := w.heap.size + 1 + 1 + 1) (by omega) (Z2)).below (below_dr _)), (((Jm.other (c := w.heap.size + 1 + 1) (by omega) (Z1)).other (c := w.heap.size + 1 + 1 + 1) (by omega) (Z2)).below (below_dr _)), (((Jn.other (c := w.heap.size + 1 + 1) (by omega) (Z1)).other (c := w.heap.size + 1 + 1 + 1) (by omega) (Z2)).below (below_dr _)), below_next (putS_below (Z2) (putS_below (Z1) B (by omega : w.heap.size ≤ w.heap.size + 1 + 1)) (by omega : w.heap.size ≤ w.heap.size + 1 + 1 + 1)) (below_dr _)⟩, rfl⟩
 clear JXd0 JXd1 JXd2 JXd3 JXdl JXdf0 JXdf1 JXdf2 JXdf3 JYd0 JYd1 JYd2 JYd3 JYdl JYdf0 JYdf1 JYdf2 JYdf3 Jad0 Jad1 Jad2 Jad3 Jadl Jadf0 Jadf1 Jadf2 Jadf3 Jbd0 Jbd1 Jbd2 Jbd3 Jbdl Jbdf0 Jbdf1 Jbdf2 Jbdf3 JNd0 JNd1 JNd2 JNd3 JNdl JNdf0 JNdf1 JNdf2 JNdf3 Jmd0 Jmd1 Jmd2 Jmd3 Jmdl Jmdf0 Jmdf1 Jmdf2 Jmdf3 Jnd0 Jnd1 Jnd2 Jnd3 Jndl Jndf0 Jndf1 Jndf2 Jndf3 ld
 clear JX JY Ja Jb JN Jm Jn B
 intro w61 ⟨JX, JY, Ja, Jb, JN, Jm, Jn, B⟩
 obtain ⟨JXl, JX0, JX1, JX2, JX3⟩ := JX.k
 obtain ⟨JYl, JY0, JY1, JY2, JY3⟩ := JY.k
 obtain ⟨Jal, Ja0, Ja1, Ja2, Ja3, Jaf0, Jaf1, Jaf2, Jaf3⟩ := id Ja
 obtain ⟨Jbl, Jb0, Jb1, Jb2, Jb3, Jbf0, Jbf1, Jbf2, Jbf3⟩ := id Jb
 obtain ⟨JNl, JN0, JN1, JN2, JN3⟩ := JN.k
 obtain ⟨Jml, Jm0, Jm1, Jm2, Jm3, Jmf0, Jmf1, Jmf2, Jmf3⟩ := id Jm
 obtain ⟨Jnl, Jn0, Jn1, Jn2, Jn3, Jnf0, Jnf1, Jnf2, Jnf3⟩ := id Jn
 have lb := B.size
 go_wp2
 exact bodyPost_ret (v := .tuple #[sv Z1, sv Z2, .bool true]) (by simp [results, Tryz.results30, go_sem, JX.k, JY.k, Ja.k, Jb.k, JN.k, Jm.k, Jn.k]; try first | rfl | exact ⟨rfl, rfl⟩) rfl ⟨rfl, B⟩
set_option maxHeartbeats 32000000 in
theorem rRefine_q4n (op : Int) (c : Bool) (a b : Sc) (k : Bool) (h : Wd.isCond op = true) (ha : mayX a = true) (hb : mayX b = true) (hR : ¬ refH (if k = true then op else oppR op) c a b) (hq : unsI (if k = true then op else oppR op) = 4) (hT : ((a.1.1 ||| a.1.2) &&& (b.1.1 ||| b.1.2)) = 0#64) (w : World) : Calls Tryz.prog 30 #[.int .i64 op, .bool c, sv a, sv b, .bool k] w fun e w' => e = .returned (tri (refQ 4 a b)) ∧ Below w.heap.size w w' := by
 have X1 := fun W => Wd.rcond_any op c 0 0 W (by decide) (by decide) (by decide) (by decide)
 have X2 := fun W => rMayX_any a W
 have X3 := fun W => rMayX_any b W
 have XO := fun W => rOpp_any op W
 generalize Wd.condI op c 0 0 = N at X1
 rw [show Wd.condE op = 0 from if_pos h] at X1
 rw [ha] at X2
 rw [hb] at X3
 obtain ⟨q0, hq0⟩ : ∃ q0, q0 = if k = true then op else oppR op := ⟨_, rfl⟩
 have HQ0 := hid hq0
 obtain ⟨M, hM⟩ : ∃ M, M = bmax a.2.2 b.2.2 := ⟨_, rfl⟩
 have HM := hid hM
 have hH : ¬ refH q0 c a b := by rw [hq0]; exact hR
 unfold refH at hH
 rw [← hM] at hH
 replace hH := hid hH
 have HQ : Hid (unsI q0 = 4) := hid (by rw [hq0]; exact hq)
 rw [show refQ 4 a b = noT from if_pos hT]
 have XP : ∀ W, Calls Tryz.prog 65 #[.int .i64 q0] W fun e w' => e = .returned (.int .i64 (unsI q0)) ∧ Below W.heap.size W w' := fun W => (rPlain_any q0 W).mono fun e w' hh => ⟨hh.1, by rw [hh.2]; exact Below.refl _ _⟩
 have HT := hid hT
 clear h ha hb hq0 hM hR hq hT
 obtain ⟨⟨v, m⟩, l, h⟩ := a
 obtain ⟨⟨v', m'⟩, l', h'⟩ := b
 unfold tri noT
 unfold sv at X2 X3 ⊢
 dsimp only at X2 X3 HM HT ⊢
 replace X1 := hid X1
 replace X2 := hid X2
 replace X3 := hid X3
 replace XO := hid XO
 replace XP := hid XP
 go_enter Tryz.func30, Tryz.ntmps30
 refine wp_seq ?_
 refine cutS [7, 8, 10, 11, 12] (fun us W' => us.getD 0 undef = .pointer (some ⟨w.heap.size, 0, none⟩) ∧ us.getD 1 undef = .pointer (some ⟨w.heap.size + 1, 0, none⟩) ∧ us.getD 2 undef = .pointer (some ⟨w.heap.size + 1 + 1, 0, none⟩) ∧ us.getD 3 undef = .pointer (some ⟨w.heap.size + 1 + 1 + 1, 0, none⟩) ∧ us.getD 4 undef = .bool false ∧ FBx w W' ((v, m), l, h) ((v', m'), l', h') (sc0) (sc0) (Below w.heap.size w W')) ?_ ?_
 ·
  go_wp2
  exact cutEnd ⟨by kernel_rfl, by kernel_rfl, by kernel_rfl, by kernel_rfl, by kernel_rfl, (((SC.new (x := ((v, m), l, h)) rfl).alloc _).alloc _).alloc _, ((SC.new (x := ((v', m'), l', h')) (by simp)).alloc _).alloc _, (SC.new (x := sc0) (by simp)).alloc _, SC.new (x := sc0) (by simp), bel_alloc (bel_alloc (bel_alloc (bel_alloc (Below.refl _ _))))⟩ (by kernel_rfl)
 intro w1 u7 u8 u10 u11 u12 hF
 obtain ⟨e7, e8, e10, e11, e12, JX, JY, Ja, Jb, B⟩ := hF
 obtain rfl : u7 = _ := e7
 obtain rfl : u8 = _ := e8
 obtain rfl : u10 = _ := e10
 obtain rfl : u11 = _ := e11
 obtain rfl : u12 = _ := e12
 simp only [sets, s1, s2, s3]
 try simp only [Exit.then]
 obtain ⟨gn, hgn⟩ : ∃ g : Nat, g = w1.heap.size := ⟨_, rfl⟩
 have ln : w.heap.size + 1 + 1 + 1 < gn := by rw [hgn]; exact Jb.lt
 refine wp_seq ?_
 refine cutS [13, 21] (fun us W' => us.getD 0 undef = .pointer (some ⟨gn, 0, none⟩) ∧ FBx w W' ((v, m), l, h) ((v', m'), l', h') (sc0) (sc0) (SC W' (gn) (sc0) ∧ Below w.heap.size w W')) ?_ ?_
 ·
  obtain ⟨JXl, JX0, JX1, JX2, JX3⟩ := JX.k
  obtain ⟨JYl, JY0, JY1, JY2, JY3⟩ := JY.k
  obtain ⟨Jal, Ja0, Ja1, Ja2, Ja3⟩ := Ja.k
  obtain ⟨Jbl, Jb0, Jb1, Jb2, Jb3⟩ := Jb.k
  have lb := B.size
  go_wp2
  rw [← hgn]
  exact cutEnd ⟨by kernel_rfl, JX.alloc _, JY.alloc _, Ja.alloc _, Jb.alloc _, SC.new (x := sc0) hgn, bel_alloc B⟩ (by kernel_rfl)
 clear JX JY Ja Jb B
 intro w2 u13 u21 hF
 obtain ⟨e13, JX, JY, Ja, Jb, JN, B⟩ := hF
 obtain rfl : u13 = _ := e13
 simp only [sets, s1, s2, s3]
 try simp only [Exit.then]
 clear hgn
 refine wp_seq ?_
 refine cutS [14, 15, 22, 23, 24, 25, 26, 27] (fun us W' => us.getD 1 undef = .int .i64 0 ∧ FBx w W' ((v, m), l, h) ((v', m'), l', h') (sc0) (sc0) (SC W' (gn) (sc0) ∧ Below w.heap.size w W')) ?_ ?_
 ·
  go_wp2_with fail
  refine (X1.out _).mono ?_
  rintro e w_ ⟨rfl, rfl⟩
  go_wp2
  exact cutEnd ⟨by kernel_rfl, JX, JY, Ja, Jb, JN, B⟩ (by kernel_rfl)
 clear JX JY Ja Jb JN B
 intro w3 u14 u15 u22 u23 u24 u25 u26 u27 hF
 obtain ⟨e15, JX, JY, Ja, Jb, JN, B⟩ := hF
 obtain rfl : u15 = _ := e15
 simp only [sets, s1, s2, s3]
 try simp only [Exit.then]
 refine wp_seq ?_
 refine cutS [28, 29, 30, 31, 32, 33, 34, 35, 36, 37, 38, 39] (fun us W' => FBx w W' ((v, m), l, h) ((v', m'), l', h') (sc0) (sc0) (SC W' (gn) (sc0) ∧ Below w.heap.size w W')) ?_ ?_
 ·
  obtain ⟨JXl, JX0, JX1, JX2, JX3⟩ := JX.k
  obtain ⟨JYl, JY0, JY1, JY2, JY3⟩ := JY.k
  obtain ⟨Jal, Ja0, Ja1, Ja2, Ja3⟩ := Ja.k
  obtain ⟨Jbl, Jb0, Jb1, Jb2, Jb3⟩ := Jb.k
  obtain ⟨JNl, JN0, JN1, JN2, JN3⟩ := JN.k
  have lb := B.size
  go_wp2_with fail
  refine (X2.out _).mono ?_
  rintro e wa ⟨rfl, z⟩
  clear JX0 JX1 JX2 JX3 JXl JY0 JY1 JY2 JY3 JYl Ja0 Ja1 Ja2 Ja3 Jal Jb0 Jb1 Jb2 Jb3 Jbl JN0 JN1 JN2 JN3 JNl lb
  replace JX := JX.below z
  replace JY := JY.below z
  replace Ja := Ja.below z
  replace Jb := Jb.below z
  replace JN := JN.below z
  replace B := below_next B z
  clear z
  obtain ⟨JXl, JX0, JX1, JX2, JX3⟩ := JX.k
  obtain ⟨JYl, JY0, JY1, JY2, JY3⟩ := JY.k
  obtain ⟨Jal, Ja0, Ja1, Ja2, Ja3⟩ := Ja.k
  obtain ⟨Jbl, Jb0, Jb1, Jb2, Jb3⟩ := Jb.k
  obtain ⟨JNl, JN0, JN1, JN2, JN3⟩ := JN.k
  have lb := B.size
  go_wp2_with fail
  refine (X3.out _).mono ?_
  rintro e wb ⟨rfl, z⟩
  clear JX0 JX1 JX2 JX3 JXl JY0 JY1 JY2 JY3 JYl Ja0 Ja1 Ja2 Ja3 Jal Jb0 Jb1 Jb2 Jb3 Jbl JN0 JN1 JN2 JN3 JNl lb
  replace JX := JX.below z
  replace JY := JY.below z
  replace Ja := Ja.below z
  replace Jb := Jb.below z
  replace JN := JN.below z
  replace B := below_next B z
  clear z
  go_wp2
  exact cutEnd ⟨JX, JY, Ja, Jb, JN, B⟩ (by kernel_rfl)
 clear JX JY Ja Jb JN B
 intro w4 u28 u29 u30 u31 u32 u33 u34 u35 u36 u37 u38 u39 hF
 obtain ⟨JX, JY, Ja, Jb, JN, B⟩ := hF
 simp only [sets, s1, s2, s3]
 try simp only [Exit.then]
 have hq0 : Hid (q0 = if k = true then op else oppR op) := HQ0
 refine wp_seq ?_
 refine cutS [0, 42, 43, 44, 45] (fun us W' => us.getD 0 undef = .int .i64 q0 ∧ FBx w W' ((v, m), l, h) ((v', m'), l', h') (sc0) (sc0) (SC W' (gn) (sc0) ∧ Below w.heap.size w W')) ?_ ?_
 ·
  cases k
  ·
   obtain ⟨JXl, JX0, JX1, JX2, JX3⟩ := JX.k
   obtain ⟨JYl, JY0, JY1, JY2, JY3⟩ := JY.k
   obtain ⟨Jal, Ja0, Ja1, Ja2, Ja3⟩ := Ja.k
   obtain ⟨Jbl, Jb0, Jb1, Jb2, Jb3⟩ := Jb.k
   obtain ⟨JNl, JN0, JN1, JN2, JN3⟩ := JN.k
   have lb := B.size
   go_wp2_with fail
   refine (XO.out _).mono ?_
   rintro e wa ⟨rfl, z⟩
   clear JX0 JX1 JX2 JX3 JXl JY0 JY1 JY2 JY3 JYl Ja0 Ja1 Ja2 Ja3 Jal Jb0 Jb1 Jb2 Jb3 Jbl JN0 JN1 JN2 JN3 JNl lb
   replace JX := JX.below z
   replace JY := JY.below z
   replace Ja := Ja.below z
   replace Jb := Jb.below z
   replace JN := JN.below z
   replace B := below_next B z
   clear z
   have hqq : q0 = oppR op := hq0.out
   go_wp2
   try rw [hqq]
   exact cutEnd ⟨by kernel_rfl, JX, JY, Ja, Jb, JN, B⟩ (by kernel_rfl)
  ·
   have hqq : q0 = op := hq0.out
   go_wp2
   try rw [hqq]
   exact cutEnd ⟨by kernel_rfl, JX, JY, Ja, Jb, JN, B⟩ (by kernel_rfl)
 clear JX JY Ja Jb JN B
 intro w5 u0 u42 u43 u44 u45 hF
 obtain ⟨e0, JX, JY, Ja, Jb, JN, B⟩ := hF
 obtain rfl : u0 = _ := e0
 simp only [sets, s1, s2, s3]
 try simp only [Exit.then]
 refine wp_seq ?_
 refine cutS [16, 46, 47, 48] (fun us W' => us.getD 0 undef = .int .u64 (ub h) ∧ FBx w W' ((v, m), l, h) ((v', m'), l', h') (sc0) (sc0) (SC W' (gn) (sc0) ∧ Below w.heap.size w W')) ?_ ?_
 ·
  obtain ⟨JXl, JX0, JX1, JX2, JX3⟩ := JX.k
  obtain ⟨JYl, JY0, JY1, JY2, JY3⟩ := JY.k
  obtain ⟨Jal, Ja0, Ja1, Ja2, Ja3⟩ := Ja.k
  obtain ⟨Jbl, Jb0, Jb1, Jb2, Jb3⟩ := Jb.k
  obtain ⟨JNl, JN0, JN1, JN2, JN3⟩ := JN.k
  have lb := B.size
  go_wp2
  exact cutEnd ⟨by kernel_rfl, JX, JY, Ja, Jb, JN, B⟩ (by kernel_rfl)
 clear JX JY Ja Jb JN B
 intro w6 u16 u46 u47 u48 hF
 obtain ⟨e16, JX, JY, Ja, Jb, JN, B⟩ := hF
 obtain rfl : u16 = _ := e16
 simp only [sets, s1, s2, s3]
 try simp only [Exit.then]
 refine wp_seq ?_
 refine cutS [16, 49, 50, 51, 52, 53, 54, 55, 56] (fun us W' => us.getD 0 undef = .int .u64 (ub M) ∧ FBx w W' ((v, m), l, h) ((v', m'), l', h') (sc0) (sc0) (SC W' (gn) (sc0) ∧ Below w.heap.size w W')) ?_ ?_
 ·
  by_cases hm : ub h < ub h'
  ·
   have dm : decide (ub h < ub h') = true := decide_eq_true hm
   rw [show M = h' by rw [HM.out]; exact bmax_right hm]
   obtain ⟨JXl, JX0, JX1, JX2, JX3⟩ := JX.k
   obtain ⟨JYl, JY0, JY1, JY2, JY3⟩ := JY.k
   obtain ⟨Jal, Ja0, Ja1, Ja2, Ja3⟩ := Ja.k
   obtain ⟨Jbl, Jb0, Jb1, Jb2, Jb3⟩ := Jb.k
   obtain ⟨JNl, JN0, JN1, JN2, JN3⟩ := JN.k
   have lb := B.size
   go_wp2
   exact cutEnd ⟨by kernel_rfl, JX, JY, Ja, Jb, JN, B⟩ (by kernel_rfl)
  ·
   have dm : decide (ub h < ub h') = false := decide_eq_false hm
   rw [show M = h by rw [HM.out]; exact bmax_left hm]
   obtain ⟨JXl, JX0, JX1, JX2, JX3⟩ := JX.k
   obtain ⟨JYl, JY0, JY1, JY2, JY3⟩ := JY.k
   obtain ⟨Jal, Ja0, Ja1, Ja2, Ja3⟩ := Ja.k
   obtain ⟨Jbl, Jb0, Jb1, Jb2, Jb3⟩ := Jb.k
   obtain ⟨JNl, JN0, JN1, JN2, JN3⟩ := JN.k
   have lb := B.size
   go_wp2
   exact cutEnd ⟨by kernel_rfl, JX, JY, Ja, Jb, JN, B⟩ (by kernel_rfl)
 clear JX JY Ja Jb JN B
 intro w7 u16 u49 u50 u51 u52 u53 u54 u55 u56 hF
 obtain ⟨e16, JX, JY, Ja, Jb, JN, B⟩ := hF
 obtain rfl : u16 = _ := e16
 simp only [sets, s1, s2, s3]
 try simp only [Exit.then]
 have UM : Hid ((ub M : Int) = (M.toNat : Int)) := rfl
 refine wp_seq ?_
 refine cutS [57, 58, 59, 60, 61, 62] (fun us W' => FBx w W' ((v, m), l, h) ((v', m'), l', h') (sc0) (sc0) (SC W' (gn) (sc0) ∧ Below w.heap.size w W')) ?_ ?_
 ·
  cases c
  ·
   have d1 : ¬ (4294967296 : Int) ≤ ub M := by rw [UM.out]; intro q; exact hH.out (.inl ⟨rfl, by omega⟩)
   go_wp2
   exact cutEnd ⟨JX, JY, Ja, Jb, JN, B⟩ (by kernel_rfl)
  ·
   go_wp2
   exact cutEnd ⟨JX, JY, Ja, Jb, JN, B⟩ (by kernel_rfl)
 clear JX JY Ja Jb JN B
 intro w8 u57 u58 u59 u60 u61 u62 hF
 obtain ⟨JX, JY, Ja, Jb, JN, B⟩ := hF
 simp only [sets, s1, s2, s3]
 try simp only [Exit.then]
 refine wp_seq ?_
 refine cutS [0, 65, 66, 67, 68, 69, 70, 71, 72, 73, 74, 75, 76, 77, 78, 79, 80, 81, 82, 83, 84, 85] (fun us W' => us.getD 0 undef = .int .i64 4 ∧ FBx w W' ((v, m), l, h) ((v', m'), l', h') (sc0) (sc0) (SC W' (gn) (sc0) ∧ Below w.heap.size w W')) ?_ ?_
 ·
  by_cases he : unsI q0 = q0
  ·
   have hb1 : (unsI q0 != q0) = false := by simpa using he
   have hq9 : Hid (q0 = 4) := hid (he.symm.trans HQ.out)
   clear he
   obtain ⟨JXl, JX0, JX1, JX2, JX3⟩ := JX.k
   obtain ⟨JYl, JY0, JY1, JY2, JY3⟩ := JY.k
   obtain ⟨Jal, Ja0, Ja1, Ja2, Ja3⟩ := Ja.k
   obtain ⟨Jbl, Jb0, Jb1, Jb2, Jb3⟩ := Jb.k
   obtain ⟨JNl, JN0, JN1, JN2, JN3⟩ := JN.k
   have lb := B.size
   go_wp2_with fail
   refine (XP.out _).mono ?_
   rintro e wa ⟨rfl, z⟩
   clear JX0 JX1 JX2 JX3 JXl JY0 JY1 JY2 JY3 JYl Ja0 Ja1 Ja2 Ja3 Jal Jb0 Jb1 Jb2 Jb3 Jbl JN0 JN1 JN2 JN3 JNl lb
   replace JX := JX.below z
   replace JY := JY.below z
   replace Ja := Ja.below z
   replace Jb := Jb.below z
   replace JN := JN.below z
   replace B := below_next B z
   clear z
   go_wp2
   rw [hq9.out]
   exact cutEnd ⟨by kernel_rfl, JX, JY, Ja, Jb, JN, B⟩ (by kernel_rfl)
  ·
   have hb1 : (unsI q0 != q0) = true := by simpa using he
   cases c
   ·
    have d2 : decide ((2147483648 : Int) ≤ ub M) = false := decide_eq_false (by rw [UM.out]; intro q; exact hH.out (.inr ⟨he, .inr ⟨rfl, by omega⟩⟩))
    clear he
    obtain ⟨JXl, JX0, JX1, JX2, JX3⟩ := JX.k
    obtain ⟨JYl, JY0, JY1, JY2, JY3⟩ := JY.k
    obtain ⟨Jal, Ja0, Ja1, Ja2, Ja3⟩ := Ja.k
    obtain ⟨Jbl, Jb0, Jb1, Jb2, Jb3⟩ := Jb.k
    obtain ⟨JNl, JN0, JN1, JN2, JN3⟩ := JN.k
    have lb := B.size
    go_wp2_with fail
    refine (XP.out _).mono ?_
    rintro e wa ⟨rfl, z⟩
    clear JX0 JX1 JX2 JX3 JXl JY0 JY1 JY2 JY3 JYl Ja0 Ja1 Ja2 Ja3 Jal Jb0 Jb1 Jb2 Jb3 Jbl JN0 JN1 JN2 JN3 JNl lb
    replace JX := JX.below z
    replace JY := JY.below z
    replace Ja := Ja.below z
    replace Jb := Jb.below z
    replace JN := JN.below z
    replace B := below_next B z
    clear z
    obtain ⟨JXl, JX0, JX1, JX2, JX3⟩ := JX.k
    obtain ⟨JYl, JY0, JY1, JY2, JY3⟩ := JY.k
    obtain ⟨Jal, Ja0, Ja1, Ja2, Ja3⟩ := Ja.k
    obtain ⟨Jbl, Jb0, Jb1, Jb2, Jb3⟩ := Jb.k
    obtain ⟨JNl, JN0, JN1, JN2, JN3⟩ := JN.k
    have lb := B.size
    go_wp2_with fail
    refine (XP.out _).mono ?_
    rintro e wb ⟨rfl, z⟩
    clear JX0 JX1 JX2 JX3 JXl JY0 JY1 JY2 JY3 JYl Ja0 Ja1 Ja2 Ja3 Jal Jb0 Jb1 Jb2 Jb3 Jbl JN0 JN1 JN2 JN3 JNl lb
    replace JX := JX.below z
    replace JY := JY.below z
    replace Ja := Ja.below z
    replace Jb := Jb.below z
    replace JN := JN.below z
    replace B := below_next B z
    clear z
    go_wp2
    rw [HQ.out]
    exact cutEnd ⟨by kernel_rfl, JX, JY, Ja, Jb, JN, B⟩ (by kernel_rfl)
   ·
    have d2 : decide ((9223372036854775808 : Int) ≤ ub M) = false := decide_eq_false (by rw [UM.out]; intro q; exact hH.out (.inr ⟨he, .inl ⟨rfl, by omega⟩⟩))
    clear he
    obtain ⟨JXl, JX0, JX1, JX2, JX3⟩ := JX.k
    obtain ⟨JYl, JY0, JY1, JY2, JY3⟩ := JY.k
    obtain ⟨Jal, Ja0, Ja1, Ja2, Ja3⟩ := Ja.k
    obtain ⟨Jbl, Jb0, Jb1, Jb2, Jb3⟩ := Jb.k
    obtain ⟨JNl, JN0, JN1, JN2, JN3⟩ := JN.k
    have lb := B.size
    go_wp2_with fail
    refine (XP.out _).mono ?_
    rintro e wa ⟨rfl, z⟩
    clear JX0 JX1 JX2 JX3 JXl JY0 JY1 JY2 JY3 JYl Ja0 Ja1 Ja2 Ja3 Jal Jb0 Jb1 Jb2 Jb3 Jbl JN0 JN1 JN2 JN3 JNl lb
    replace JX := JX.below z
    replace JY := JY.below z
    replace Ja := Ja.below z
    replace Jb := Jb.below z
    replace JN := JN.below z
    replace B := below_next B z
    clear z
    obtain ⟨JXl, JX0, JX1, JX2, JX3⟩ := JX.k
    obtain ⟨JYl, JY0, JY1, JY2, JY3⟩ := JY.k
    obtain ⟨Jal, Ja0, Ja1, Ja2, Ja3⟩ := Ja.k
    obtain ⟨Jbl, Jb0, Jb1, Jb2, Jb3⟩ := Jb.k
    obtain ⟨JNl, JN0, JN1, JN2, JN3⟩ := JN.k
    have lb := B.size
    go_wp2_with fail
    refine (XP.out _).mono ?_
    rintro e wb ⟨rfl, z⟩
    clear JX0 JX1 JX2 JX3 JXl JY0 JY1 JY2 JY3 JYl Ja0 Ja1 Ja2 Ja3 Jal Jb0 Jb1 Jb2 Jb3 Jbl JN0 JN1 JN2 JN3 JNl lb
    replace JX := JX.below z
    replace JY := JY.below z
    replace Ja := Ja.below z
    replace Jb := Jb.below z
    replace JN := JN.below z
    replace B := below_next B z
    clear z
    go_wp2
    rw [HQ.out]
    exact cutEnd ⟨by kernel_rfl, JX, JY, Ja, Jb, JN, B⟩ (by kernel_rfl)
 clear JX JY Ja Jb JN B
 intro w9 u0 u65 u66 u67 u68 u69 u70 u71 u72 u73 u74 u75 u76 u77 u78 u79 u80 u81 u82 u83 u84 u85 hF
 obtain ⟨e0, JX, JY, Ja, Jb, JN, B⟩ := hF
 obtain rfl : u0 = _ := e0
 simp only [sets, s1, s2, s3]
 try simp only [Exit.then]
 clear UM hH HQ XP X1 X2 X3 XO
 refine wp_seq ?_
 apply cutGG (F := fun g h_ W' => SC W' g ((v, m), l, h) ∧ SC W' h_ ((v', m'), l', h') ∧ (gn < g ∧ gn < h_ ∧ g ≠ h_) ∧ SC W' (w.heap.size) ((v, m), l, h) ∧ SC W' (w.heap.size + 1) ((v', m'), l', h') ∧ SC W' (w.heap.size + 1 + 1) (sc0) ∧ SC W' (w.heap.size + 1 + 1 + 1) (sc0) ∧ SC W' (gn) (sc0) ∧ Below w.heap.size w W')
 ·
  obtain ⟨JXl, JX0, JX1, JX2, JX3⟩ := JX.k
  obtain ⟨JYl, JY0, JY1, JY2, JY3⟩ := JY.k
  obtain ⟨Jal, Ja0, Ja1, Ja2, Ja3⟩ := Ja.k
  obtain ⟨Jbl, Jb0, Jb1, Jb2, Jb3⟩ := Jb.k
  obtain ⟨JNl, JN0, JN1, JN2, JN3⟩ := JN.k
  have lb := B.size
  have gl := JN.lt
  go_region
  all_goals
   obtain ⟨h2, hh2⟩ : ∃ h_, w9.heap.size + 1 = h_ := ⟨_, rfl⟩
   obtain ⟨g2, hg2⟩ : ∃ g, w9.heap.size = g := ⟨_, rfl⟩
   first
    | (refine ⟨g2, h2, ⟨?_, ?_, ⟨by omega, by omega, by omega⟩, ((JX.alloc _).alloc _).below (below_dr _), ((JY.alloc _).alloc _).below (below_dr _), ((Ja.alloc _).alloc _).below (below_dr _), ((Jb.alloc _).alloc _).below (below_dr _), ((JN.alloc _).alloc _).below (below_dr _), below_next (bel_alloc (bel_alloc B)) (below_dr _)⟩, ?_⟩
       · rw [← hg2]; exact (twoB ((v, m), l, h) ((v', m'), l', h') _ _ rfl rfl).1
       · rw [← hh2]; exact (twoB ((v, m), l, h) ((v', m'), l', h') _ _ rfl rfl).2
       · rw [hh2, hg2])
    | (refine ⟨h2, g2, ⟨?_, ?_, ⟨by omega, by omega, by omega⟩, ((JX.alloc _).alloc _).below (below_dr _), ((JY.alloc _).alloc _).below (below_dr _), ((Ja.alloc _).alloc _).below (below_dr _), ((Jb.alloc _).alloc _).below (below_dr _), ((JN.alloc _).alloc _).below (below_dr _), below_next (bel_alloc (bel_alloc B)) (below_dr _)⟩, ?_⟩
       · rw [← hh2]; exact (twoB ((v', m'), l', h') ((v, m), l, h) _ _ rfl rfl).2
       · rw [← hg2]; exact (twoB ((v', m'), l', h') ((v, m), l, h) _ _ rfl rfl).1
       · rw [hh2, hg2])
 clear JX JY Ja Jb JN B
 intro gm gk w40 ⟨Jm, Jn, ⟨lm, lk, lmk⟩, JX, JY, Ja, Jb, JN, B⟩
 try simp only [Exit.then]
 refine wp_seq ?_
 refine cutS [19, 20] (fun us W' => us.getD 0 undef = .bool true ∧ us.getD 1 undef = .bool true ∧ FBx w W' ((v, m), l, h) ((v', m'), l', h') (sc0) (sc0) (SC W' (gn) (sc0) ∧ SC W' (gm) ((v, m), l, h) ∧ SC W' (gk) ((v', m'), l', h') ∧ Below w.heap.size w W')) ?_ ?_
 ·
  go_wp2
  exact cutEnd ⟨by kernel_rfl, by kernel_rfl, JX, JY, Ja, Jb, JN, Jm, Jn, B⟩ (by kernel_rfl)
 clear JX JY Ja Jb JN Jm Jn B
 intro w10 u19 u20 hF
 obtain ⟨e19, e20, JX, JY, Ja, Jb, JN, Jm, Jn, B⟩ := hF
 obtain rfl : u19 = _ := e19
 obtain rfl : u20 = _ := e20
 simp only [sets, s1, s2, s3]
 try simp only [Exit.then]
 have f1 : decide ((0 : Int) < ub ((v ||| m) &&& (v' ||| m'))) = false := decide_eq_false (by rw [HT.out]; decide)
 clear HT
 refine wp_seq ?_
 refine cutS [19, 20, 88, 89, 90, 98, 99, 120, 121, 152, 153, 170, 171, 202, 203, 220, 221, 222, 223, 224, 225, 226, 227, 228, 229, 230, 231, 232, 233, 234, 235, 236, 237] (fun us W' => us.getD 0 undef = .bool false ∧ us.getD 1 undef = .bool true ∧ FBx w W' ((v, m), l, h) ((v', m'), l', h') (sc0) (sc0) (SC W' (gn) (sc0) ∧ SC W' (gm) ((v, m), l, h) ∧ SC W' (gk) ((v', m'), l', h') ∧ Below w.heap.size w W')) ?_ ?_
 ·
  obtain ⟨JXl, JX0, JX1, JX2, JX3⟩ := JX.k
  obtain ⟨JYl, JY0, JY1, JY2, JY3⟩ := JY.k
  obtain ⟨Jal, Ja0, Ja1, Ja2, Ja3⟩ := Ja.k
  obtain ⟨Jbl, Jb0, Jb1, Jb2, Jb3⟩ := Jb.k
  obtain ⟨JNl, JN0, JN1, JN2, JN3⟩ := JN.k
  obtain ⟨Jml, Jm0, Jm1, Jm2, Jm3⟩ := Jm.k
  obtain ⟨Jnl, Jn0, Jn1, Jn2, Jn3⟩ := Jn.k
  have lb := B.size
  obtain ⟨Jmf0, Jmf1, Jmf2, Jmf3⟩ := Jm.f
  obtain ⟨Jnf0, Jnf1, Jnf2, Jnf3⟩ := Jn.f
  go_wp2
  exact cutEnd ⟨by kernel_rfl, by kernel_rfl, JX, JY, Ja, Jb, JN, Jm, Jn, B⟩ (by kernel_rfl)
 clear JX JY Ja Jb JN Jm Jn B
 intro w11 u19 u20 u88 u89 u90 u98 u99 u120 u121 u152 u153 u170 u171 u202 u203 u220 u221 u222 u223 u224 u225 u226 u227 u228 u229 u230 u231 u232 u233 u234 u235 u236 u237 hF
 obtain ⟨e19, e20, JX, JY, Ja, Jb, JN, Jm, Jn, B⟩ := hF
 obtain rfl : u19 = _ := e19
 obtain rfl : u20 = _ := e20
 simp only [sets, s1, s2, s3]
 try simp only [Exit.then]
 clear f1
 obtain ⟨JXl, JX0, JX1, JX2, JX3⟩ := JX.k
 obtain ⟨JYl, JY0, JY1, JY2, JY3⟩ := JY.k
 obtain ⟨Jal, Ja0, Ja1, Ja2, Ja3, Jaf0, Jaf1, Jaf2, Jaf3⟩ := id Ja
 obtain ⟨Jbl, Jb0, Jb1, Jb2, Jb3, Jbf0, Jbf1, Jbf2, Jbf3⟩ := id Jb
 obtain ⟨JNl, JN0, JN1, JN2, JN3⟩ := JN.k
 obtain ⟨Jml, Jm0, Jm1, Jm2, Jm3, Jmf0, Jmf1, Jmf2, Jmf3⟩ := id Jm
 obtain ⟨Jnl, Jn0, Jn1, Jn2, Jn3, Jnf0, Jnf1, Jnf2, Jnf3⟩ := id Jn
 have lb := B.size
 go_wp2_with fail
 clear JX0 JX1 JX2 JX3 JXl JY0 JY1 JY2 JY3 JYl Ja0 Ja1 Ja2 Ja3 Jal Jaf0 Jaf1 Jaf2 Jaf3 Jb0 Jb1 Jb2 Jb3 Jbl Jbf0 Jbf1 Jbf2 Jbf3 JN0 JN1 JN2 JN3 JNl Jm0 Jm1 Jm2 Jm3 Jml Jmf0 Jmf1 Jmf2 Jmf3 Jn0 Jn1 Jn2 Jn3 Jnl Jnf0 Jnf1 Jnf2 Jnf3 lb
 obtain ⟨JXdl, JXd0, JXd1, JXd2, JXd3, JXdf0, JXdf1, JXdf2, JXdf3⟩ := id JX
 obtain ⟨JYdl, JYd0, JYd1, JYd2, JYd3, JYdf0, JYdf1, JYdf2, JYdf3⟩ := id JY
 obtain ⟨Jadl, Jad0, Jad1, Jad2, Jad3, Jadf0, Jadf1, Jadf2, Jadf3⟩ := id Ja
 obtain ⟨Jbdl, Jbd0, Jbd1, Jbd2, Jbd3, Jbdf0, Jbdf1, Jbdf2, Jbdf3⟩ := id Jb
 obtain ⟨JNdl, JNd0, JNd1, JNd2, JNd3, JNdf0, JNdf1, JNdf2, JNdf3⟩ := id JN
 obtain ⟨Jmdl, Jmd0, Jmd1, Jmd2, Jmd3, Jmdf0, Jmdf1, Jmdf2, Jmdf3⟩ := id Jm
 obtain ⟨Jndl, Jnd0, Jnd1, Jnd2, Jnd3, Jndf0, Jndf1, Jndf2, Jndf3⟩ := id Jn
 have ld := B.size
 apply cutF (F := fun W' => SC W' (w.heap.size) ((v, m), l, h) ∧ SC W' (w.heap.size + 1) ((v', m'), l', h') ∧ SC W' (w.heap.size + 1 + 1) (sc0) ∧ SC W' (w.heap.size + 1 + 1 + 1) (sc0) ∧ SC W' (gn) sc0 ∧ SC W' (gm) ((v, m), l, h) ∧ SC W' (gk) ((v', m'), l', h') ∧ Below w.heap.size w W')
 ·
  go_region
  all_goals exact ⟨⟨(((JX.other (c := w.heap.size + 1 + 1) (by omega) (sc0)).other (c := w.heap.size + 1 + 1 + 1) (by omega) (sc0)).below (below_dr _)), (((JY.other (c := w.heap.size + 1 + 1) (by omega) (sc0)).other (c := w.heap.size + 1 + 1 + 1) (by omega) (sc0)).below (below_dr _)), (((Ja.put (sc0)).other (c := w.heap.size + 1 + 1 + 1) (by omega) (sc0)).below (below_dr _)), (((Jb.other (c := w.heap.size + 1 + 1) (by omega) (sc0)).put (sc0)).below (below_dr _)), (((JN.other (c := w.heap.size + 1 + 1) (by omega) (sc0)).other (c := w.heap.size + 1 + 1 + 1) (by omega) (sc0)).below (below_dr _)), (((Jm.other (c := w.heap.size + 1 + 1) (by omega) (sc0)).other (c := w.heap.size + 1 + 1 + 1) (by omega) (sc0)).below (below_dr _)), (((Jn.other (c := w.heap.size + 1 + 1) (by omega) (sc0)).other (c := w.heap.size + 1 + 1 + 1) (by omega) (sc0)).below (below_dr _)), below_next (putS_below (sc0) (putS_below (sc0) B (by omega : w.heap.size ≤ w.heap.size + 1 + 1)) (by omega : w.heap.size ≤ w.heap.size + 1 + 1 + 1)) (below_dr _)⟩, rfl⟩
 clear JXd0 JXd1 JXd2 JXd3 JXdl JXdf0 JXdf1 JXdf2 JXdf3 JYd0 JYd1 JYd2 JYd3 JYdl JYdf0 JYdf1 JYdf2 JYdf3 Jad0 Jad1 Jad2 Jad3 Jadl Jadf0 Jadf1 Jadf2 Jadf3 Jbd0 Jbd1 Jbd2 Jbd3 Jbdl Jbdf0 Jbdf1 Jbdf2 Jbdf3 JNd0 JNd1 JNd2 JNd3 JNdl JNdf0 JNdf1 JNdf2 JNdf3 Jmd0 Jmd1 Jmd2 Jmd3 Jmdl Jmdf0 Jmdf1 Jmdf2 Jmdf3 Jnd0 Jnd1 Jnd2 Jnd3 Jndl Jndf0 Jndf1 Jndf2 Jndf3 ld
 clear JX JY Ja Jb JN Jm Jn B
 intro w61 ⟨JX, JY, Ja, Jb, JN, Jm, Jn, B⟩
 obtain ⟨JXl, JX0, JX1, JX2, JX3⟩ := JX.k
 obtain ⟨JYl, JY0, JY1, JY2, JY3⟩ := JY.k
 obtain ⟨Jal, Ja0, Ja1, Ja2, Ja3, Jaf0, Jaf1, Jaf2, Jaf3⟩ := id Ja
 obtain ⟨Jbl, Jb0, Jb1, Jb2, Jb3, Jbf0, Jbf1, Jbf2, Jbf3⟩ := id Jb
 obtain ⟨JNl, JN0, JN1, JN2, JN3⟩ := JN.k
 obtain ⟨Jml, Jm0, Jm1, Jm2, Jm3, Jmf0, Jmf1, Jmf2, Jmf3⟩ := id Jm
 obtain ⟨Jnl, Jn0, Jn1, Jn2, Jn3, Jnf0, Jnf1, Jnf2, Jnf3⟩ := id Jn
 have lb := B.size
 go_wp2
 exact bodyPost_ret (v := .tuple #[sv sc0, sv sc0, .bool false]) (by simp [results, Tryz.results30, go_sem, JX.k, JY.k, Ja.k, Jb.k, JN.k, Jm.k, Jn.k]; try first | rfl | exact ⟨rfl, rfl⟩) rfl ⟨rfl, B⟩
set_option maxHeartbeats 32000000 in
theorem rRefine_q4y (op : Int) (c : Bool) (a b : Sc) (k : Bool) (h : Wd.isCond op = true) (ha : mayX a = true) (hb : mayX b = true) (hR : ¬ refH (if k = true then op else oppR op) c a b) (hq : unsI (if k = true then op else oppR op) = 4) (hT : ¬ (((a.1.1 ||| a.1.2) &&& (b.1.1 ||| b.1.2)) = 0#64)) (w : World) : Calls Tryz.prog 30 #[.int .i64 op, .bool c, sv a, sv b, .bool k] w fun e w' => e = .returned (tri (refQ 4 a b)) ∧ Below w.heap.size w w' := by
 have X1 := fun W => Wd.rcond_any op c 0 0 W (by decide) (by decide) (by decide) (by decide)
 have X2 := fun W => rMayX_any a W
 have X3 := fun W => rMayX_any b W
 have XO := fun W => rOpp_any op W
 generalize Wd.condI op c 0 0 = N at X1
 rw [show Wd.condE op = 0 from if_pos h] at X1
 rw [ha] at X2
 rw [hb] at X3
 obtain ⟨q0, hq0⟩ : ∃ q0, q0 = if k = true then op else oppR op := ⟨_, rfl⟩
 have HQ0 := hid hq0
 obtain ⟨M, hM⟩ : ∃ M, M = bmax a.2.2 b.2.2 := ⟨_, rfl⟩
 have HM := hid hM
 have hH : ¬ refH q0 c a b := by rw [hq0]; exact hR
 unfold refH at hH
 rw [← hM] at hH
 replace hH := hid hH
 have HQ : Hid (unsI q0 = 4) := hid (by rw [hq0]; exact hq)
 rw [show refQ 4 a b = (a, b, true) from if_neg hT]
 have XP : ∀ W, Calls Tryz.prog 65 #[.int .i64 q0] W fun e w' => e = .returned (.int .i64 (unsI q0)) ∧ Below W.heap.size W w' := fun W => (rPlain_any q0 W).mono fun e w' hh => ⟨hh.1, by rw [hh.2]; exact Below.refl _ _⟩
 have HT := hid hT
 clear h ha hb hq0 hM hR hq hT
 obtain ⟨⟨v, m⟩, l, h⟩ := a
 obtain ⟨⟨v', m'⟩, l', h'⟩ := b
 unfold tri
 unfold sv at X2 X3 ⊢
 dsimp only at X2 X3 HM HT ⊢
 replace X1 := hid X1
 replace X2 := hid X2
 replace X3 := hid X3
 replace XO := hid XO
 replace XP := hid XP
 go_enter Tryz.func30, Tryz.ntmps30
 refine wp_seq ?_
 refine cutS [7, 8, 10, 11, 12] (fun us W' => us.getD 0 undef = .pointer (some ⟨w.heap.size, 0, none⟩) ∧ us.getD 1 undef = .pointer (some ⟨w.heap.size + 1, 0, none⟩) ∧ us.getD 2 undef = .pointer (some ⟨w.heap.size + 1 + 1, 0, none⟩) ∧ us.getD 3 undef = .pointer (some ⟨w.heap.size + 1 + 1 + 1, 0, none⟩) ∧ us.getD 4 undef = .bool false ∧ FBx w W' ((v, m), l, h) ((v', m'), l', h') (sc0) (sc0) (Below w.heap.size w W')) ?_ ?_
 ·
  go_wp2
  exact cutEnd ⟨by kernel_rfl, by kernel_rfl, by kernel_rfl, by kernel_rfl, by kernel_rfl, (((SC.new (x := ((v, m), l, h)) rfl).alloc _).alloc _).alloc _, ((SC.new (x := ((v', m'), l', h')) (by simp)).alloc _).alloc _, (SC.new (x := sc0) (by simp)).alloc _, SC.new (x := sc0) (by simp), bel_alloc (bel_alloc (bel_alloc (bel_alloc (Below.refl _ _))))⟩ (by kernel_rfl)
 intro w1 u7 u8 u10 u11 u12 hF
 obtain ⟨e7, e8, e10, e11, e12, JX, JY, Ja, Jb, B⟩ := hF
 obtain rfl : u7 = _ := e7
 obtain rfl : u8 = _ := e8
 obtain rfl : u10 = _ := e10
 obtain rfl : u11 = _ := e11
 obtain rfl : u12 = _ := e12
 simp only [sets, s1, s2, s3]
 try simp only [Exit.then]
 obtain ⟨gn, hgn⟩ : ∃ g : Nat, g = w1.heap.size := ⟨_, rfl⟩
 have ln : w.heap.size + 1 + 1 + 1 < gn := by rw [hgn]; exact Jb.lt
 refine wp_seq ?_
 refine cutS [13, 21] (fun us W' => us.getD 0 undef = .pointer (some ⟨gn, 0, none⟩) ∧ FBx w W' ((v, m), l, h) ((v', m'), l', h') (sc0) (sc0) (SC W' (gn) (sc0) ∧ Below w.heap.size w W')) ?_ ?_
 ·
  obtain ⟨JXl, JX0, JX1, JX2, JX3⟩ := JX.k
  obtain ⟨JYl, JY0, JY1, JY2, JY3⟩ := JY.k
  obtain ⟨Jal, Ja0, Ja1, Ja2, Ja3⟩ := Ja.k
  obtain ⟨Jbl, Jb0, Jb1, Jb2, Jb3⟩ := Jb.k
  have lb := B.size
  go_wp2
  rw [← hgn]
  exact cutEnd ⟨by kernel_rfl, JX.alloc _, JY.alloc _, Ja.alloc _, Jb.alloc _, SC.new (x := sc0) hgn, bel_alloc B⟩ (by kernel_rfl)
 clear JX JY Ja Jb B
 intro w2 u13 u21 hF
 obtain ⟨e13, JX, JY, Ja, Jb, JN, B⟩ := hF
 obtain rfl : u13 = _ := e13
 simp only [sets, s1, s2, s3]
 try simp only [Exit.then]
 clear hgn
 refine wp_seq ?_
 refine cutS [14, 15, 22, 23, 24, 25, 26, 27] (fun us W' => us.getD 1 undef = .int .i64 0 ∧ FBx w W' ((v, m), l, h) ((v', m'), l', h') (sc0) (sc0) (SC W' (gn) (sc0) ∧ Below w.heap.size w W')) ?_ ?_
 ·
  go_wp2_with fail
  refine (X1.out _).mono ?_
  rintro e w_ ⟨rfl, rfl⟩
  go_wp2
  exact cutEnd ⟨by kernel_rfl, JX, JY, Ja, Jb, JN, B⟩ (by kernel_rfl)
 clear JX JY Ja Jb JN B
 intro w3 u14 u15 u22 u23 u24 u25 u26 u27 hF
 obtain ⟨e15, JX, JY, Ja, Jb, JN, B⟩ := hF
 obtain rfl : u15 = _ := e15
 simp only [sets, s1, s2, s3]
 try simp only [Exit.then]
 refine wp_seq ?_
 refine cutS [28, 29, 30, 31, 32, 33, 34, 35, 36, 37, 38, 39] (fun us W' => FBx w W' ((v, m), l, h) ((v', m'), l', h') (sc0) (sc0) (SC W' (gn) (sc0) ∧ Below w.heap.size w W')) ?_ ?_
 ·
  obtain ⟨JXl, JX0, JX1, JX2, JX3⟩ := JX.k
  obtain ⟨JYl, JY0, JY1, JY2, JY3⟩ := JY.k
  obtain ⟨Jal, Ja0, Ja1, Ja2, Ja3⟩ := Ja.k
  obtain ⟨Jbl, Jb0, Jb1, Jb2, Jb3⟩ := Jb.k
  obtain ⟨JNl, JN0, JN1, JN2, JN3⟩ := JN.k
  have lb := B.size
  go_wp2_with fail
  refine (X2.out _).mono ?_
  rintro e wa ⟨rfl, z⟩
  clear JX0 JX1 JX2 JX3 JXl JY0 JY1 JY2 JY3 JYl Ja0 Ja1 Ja2 Ja3 Jal Jb0 Jb1 Jb2 Jb3 Jbl JN0 JN1 JN2 JN3 JNl lb
  replace JX := JX.below z
  replace JY := JY.below z
  replace Ja := Ja.below z
  replace Jb := Jb.below z
  replace JN := JN.below z
  replace B := below_next B z
  clear z
  obtain ⟨JXl, JX0, JX1, JX2, JX3⟩ := JX.k
  obtain ⟨JYl, JY0, JY1, JY2, JY3⟩ := JY.k
  obtain ⟨Jal, Ja0, Ja1, Ja2, Ja3⟩ := Ja.k
  obtain ⟨Jbl, Jb0, Jb1, Jb2, Jb3⟩ := Jb.k
  obtain ⟨JNl, JN0, JN1, JN2, JN3⟩ := JN.k
  have lb := B.size
  go_wp2_with fail
  refine (X3.out _).mono ?_
  rintro e wb ⟨rfl, z⟩
  clear JX0 JX1 JX2 JX3 JXl JY0 JY1 JY2 JY3 JYl Ja0 Ja1 Ja2 Ja3 Jal Jb0 Jb1 Jb2 Jb3 Jbl JN0 JN1 JN2 JN3 JNl lb
  replace JX := JX.below z
  replace JY := JY.below z
  replace Ja := Ja.below z
  replace Jb := Jb.below z
  replace JN := JN.below z
  replace B := below_next B z
  clear z
  go_wp2
  exact cutEnd ⟨JX, JY, Ja, Jb, JN, B⟩ (by kernel_rfl)
 clear JX JY Ja Jb JN B
 intro w4 u28 u29 u30 u31 u32 u33 u34 u35 u36 u37 u38 u39 hF
 obtain ⟨JX, JY, Ja, Jb, JN, B⟩ := hF
 simp only [sets, s1, s2, s3]
 try simp only [Exit.then]
 have hq0 : Hid (q0 = if k = true then op else oppR op) := HQ0
 refine wp_seq ?_
 refine cutS [0, 42, 43, 44, 45] (fun us W' => us.getD 0 undef = .int .i64 q0 ∧ FBx w W' ((v, m), l, h) ((v', m'), l', h') (sc0) (sc0) (SC W' (gn) (sc0) ∧ Below w.heap.size w W')) ?_ ?_
 ·
  cases k
  ·
   obtain ⟨JXl, JX0, JX1, JX2, JX3⟩ := JX.k
   obtain ⟨JYl, JY0, JY1, JY2, JY3⟩ := JY.k
   obtain ⟨Jal, Ja0, Ja1, Ja2, Ja3⟩ := Ja.k
   obtain ⟨Jbl, Jb0, Jb1, Jb2, Jb3⟩ := Jb.k
   obtain ⟨JNl, JN0, JN1, JN2, JN3⟩ := JN.k
   have lb := B.size
   go_wp2_with fail
   refine (XO.out _).mono ?_
   rintro e wa ⟨rfl, z⟩
   clear JX0 JX1 JX2 JX3 JXl JY0 JY1 JY2 JY3 JYl Ja0 Ja1 Ja2 Ja3 Jal Jb0 Jb1 Jb2 Jb3 Jbl JN0 JN1 JN2 JN3 JNl lb
   replace JX := JX.below z
   replace JY := JY.below z
   replace Ja := Ja.below z
   replace Jb := Jb.below z
   replace JN := JN.below z
   replace B := below_next B z
   clear z
   have hqq : q0 = oppR op := hq0.out
   go_wp2
   try rw [hqq]
   exact cutEnd ⟨by kernel_rfl, JX, JY, Ja, Jb, JN, B⟩ (by kernel_rfl)
  ·
   have hqq : q0 = op := hq0.out
   go_wp2
   try rw [hqq]
   exact cutEnd ⟨by kernel_rfl, JX, JY, Ja, Jb, JN, B⟩ (by kernel_rfl)
 clear JX JY Ja Jb JN B
 intro w5 u0 u42 u43 u44 u45 hF
 obtain ⟨e0, JX, JY, Ja, Jb, JN, B⟩ := hF
 obtain rfl : u0 = _ := e0
 simp only [sets, s1, s2, s3]
 try simp only [Exit.then]
 refine wp_seq ?_
 refine cutS [16, 46, 47, 48] (fun us W' => us.getD 0 undef = .int .u64 (ub h) ∧ FBx w W' ((v, m), l, h) ((v', m'), l', h') (sc0) (sc0) (SC W' (gn) (sc0) ∧ Below w.heap.size w W')) ?_ ?_
 ·
  obtain ⟨JXl, JX0, JX1, JX2, JX3⟩ := JX.k
  obtain ⟨JYl, JY0, JY1, JY2, JY3⟩ := JY.k
  obtain ⟨Jal, Ja0, Ja1, Ja2, Ja3⟩ := Ja.k
  obtain ⟨Jbl, Jb0, Jb1, Jb2, Jb3⟩ := Jb.k
  obtain ⟨JNl, JN0, JN1, JN2, JN3⟩ := JN.k
  have lb := B.size
  go_wp2
  exact cutEnd ⟨by kernel_rfl, JX, JY, Ja, Jb, JN, B⟩ (by kernel_rfl)
 clear JX JY Ja Jb JN B
 intro w6 u16 u46 u47 u48 hF
 obtain ⟨e16, JX, JY, Ja, Jb, JN, B⟩ := hF
 obtain rfl : u16 = _ := e16
 simp only [sets, s1, s2, s3]
 try simp only [Exit.then]
 refine wp_seq ?_
 refine cutS [16, 49, 50, 51, 52, 53, 54, 55, 56] (fun us W' => us.getD 0 undef = .int .u64 (ub M) ∧ FBx w W' ((v, m), l, h) ((v', m'), l', h') (sc0) (sc0) (SC W' (gn) (sc0) ∧ Below w.heap.size w W')) ?_ ?_
 ·
  by_cases hm : ub h < ub h'
  ·
   have dm : decide (ub h < ub h') = true := decide_eq_true hm
   rw [show M = h' by rw [HM.out]; exact bmax_right hm]
   obtain ⟨JXl, JX0, JX1, JX2, JX3⟩ := JX.k
   obtain ⟨JYl, JY0, JY1, JY2, JY3⟩ := JY.k
   obtain ⟨Jal, Ja0, Ja1, Ja2, Ja3⟩ := Ja.k
   obtain ⟨Jbl, Jb0, Jb1, Jb2, Jb3⟩ := Jb.k
   obtain ⟨JNl, JN0, JN1, JN2, JN3⟩ := JN.k
   have lb := B.size
   go_wp2
   exact cutEnd ⟨by kernel_rfl, JX, JY, Ja, Jb, JN, B⟩ (by kernel_rfl)
  ·
   have dm : decide (ub h < ub h') = false := decide_eq_false hm
   rw [show M = h by rw [HM.out]; exact bmax_left hm]
   obtain ⟨JXl, JX0, JX1, JX2, JX3⟩ := JX.k
   obtain ⟨JYl, JY0, JY1, JY2, JY3⟩ := JY.k
   obtain ⟨Jal, Ja0, Ja1, Ja2, Ja3⟩ := Ja.k
   obtain ⟨Jbl, Jb0, Jb1, Jb2, Jb3⟩ := Jb.k
   obtain ⟨JNl, JN0, JN1, JN2, JN3⟩ := JN.k
   have lb := B.size
   go_wp2
   exact cutEnd ⟨by kernel_rfl, JX, JY, Ja, Jb, JN, B⟩ (by kernel_rfl)
 clear JX JY Ja Jb JN B
 intro w7 u16 u49 u50 u51 u52 u53 u54 u55 u56 hF
 obtain ⟨e16, JX, JY, Ja, Jb, JN, B⟩ := hF
 obtain rfl : u16 = _ := e16
 simp only [sets, s1, s2, s3]
 try simp only [Exit.then]
 have UM : Hid ((ub M : Int) = (M.toNat : Int)) := rfl
 refine wp_seq ?_
 refine cutS [57, 58, 59, 60, 61, 62] (fun us W' => FBx w W' ((v, m), l, h) ((v', m'), l', h') (sc0) (sc0) (SC W' (gn) (sc0) ∧ Below w.heap.size w W')) ?_ ?_
 ·
  cases c
  ·
   have d1 : ¬ (4294967296 : Int) ≤ ub M := by rw [UM.out]; intro q; exact hH.out (.inl ⟨rfl, by omega⟩)
   go_wp2
   exact cutEnd ⟨JX, JY, Ja, Jb, JN, B⟩ (by kernel_rfl)
  ·
   go_wp2
   exact cutEnd ⟨JX, JY, Ja, Jb, JN, B⟩ (by kernel_rfl)
 clear JX JY Ja Jb JN B
 intro w8 u57 u58 u59 u60 u61 u62 hF
 obtain ⟨JX, JY, Ja, Jb, JN, B⟩ := hF
 simp only [sets, s1, s2, s3]
 try simp only [Exit.then]
 refine wp_seq ?_
 refine cutS [0, 65, 66, 67, 68, 69, 70, 71, 72, 73, 74, 75, 76, 77, 78, 79, 80, 81, 82, 83, 84, 85] (fun us W' => us.getD 0 undef = .int .i64 4 ∧ FBx w W' ((v, m), l, h) ((v', m'), l', h') (sc0) (sc0) (SC W' (gn) (sc0) ∧ Below w.heap.size w W')) ?_ ?_
 ·
  by_cases he : unsI q0 = q0
  ·
   have hb1 : (unsI q0 != q0) = false := by simpa using he
   have hq9 : Hid (q0 = 4) := hid (he.symm.trans HQ.out)
   clear he
   obtain ⟨JXl, JX0, JX1, JX2, JX3⟩ := JX.k
   obtain ⟨JYl, JY0, JY1, JY2, JY3⟩ := JY.k
   obtain ⟨Jal, Ja0, Ja1, Ja2, Ja3⟩ := Ja.k
   obtain ⟨Jbl, Jb0, Jb1, Jb2, Jb3⟩ := Jb.k
   obtain ⟨JNl, JN0, JN1, JN2, JN3⟩ := JN.k
   have lb := B.size
   go_wp2_with fail
   refine (XP.out _).mono ?_
   rintro e wa ⟨rfl, z⟩
   clear JX0 JX1 JX2 JX3 JXl JY0 JY1 JY2 JY3 JYl Ja0 Ja1 Ja2 Ja3 Jal Jb0 Jb1 Jb2 Jb3 Jbl JN0 JN1 JN2 JN3 JNl lb
   replace JX := JX.below z
   replace JY := JY.below z
   replace Ja := Ja.below z
   replace Jb := Jb.below z
   replace JN := JN.below z
   replace B := below_next B z
   clear z
   go_wp2
   rw [hq9.out]
   exact cutEnd ⟨by kernel_rfl, JX, JY, Ja, Jb, JN, B⟩ (by kernel_rfl)
  ·
   have hb1 : (unsI q0 != q0) = true := by simpa using he
   cases c
   ·
    have d2 : decide ((2147483648 : Int) ≤ ub M) = false := decide_eq_false (by rw [UM.out]; intro q; exact hH.out (.inr ⟨he, .inr ⟨rfl, by omega⟩⟩))
    clear he
    obtain ⟨JXl, JX0, JX1, JX2, JX3⟩ := JX.k
    obtain ⟨JYl, JY0, JY1, JY2, JY3⟩ := JY.k
    obtain ⟨Jal, Ja0, Ja1, Ja2, Ja3⟩ := Ja.k
    obtain ⟨Jbl, Jb0, Jb1, Jb2, Jb3⟩ := Jb.k
    obtain ⟨JNl, JN0, JN1, JN2, JN3⟩ := JN.k
    have lb := B.size
    go_wp2_with fail
    refine (XP.out _).mono ?_
    rintro e wa ⟨rfl, z⟩
    clear JX0 JX1 JX2 JX3 JXl JY0 JY1 JY2 JY3 JYl Ja0 Ja1 Ja2 Ja3 Jal Jb0 Jb1 Jb2 Jb3 Jbl JN0 JN1 JN2 JN3 JNl lb
    replace JX := JX.below z
    replace JY := JY.below z
    replace Ja := Ja.below z
    replace Jb := Jb.below z
    replace JN := JN.below z
    replace B := below_next B z
    clear z
    obtain ⟨JXl, JX0, JX1, JX2, JX3⟩ := JX.k
    obtain ⟨JYl, JY0, JY1, JY2, JY3⟩ := JY.k
    obtain ⟨Jal, Ja0, Ja1, Ja2, Ja3⟩ := Ja.k
    obtain ⟨Jbl, Jb0, Jb1, Jb2, Jb3⟩ := Jb.k
    obtain ⟨JNl, JN0, JN1, JN2, JN3⟩ := JN.k
    have lb := B.size
    go_wp2_with fail
    refine (XP.out _).mono ?_
    rintro e wb ⟨rfl, z⟩
    clear JX0 JX1 JX2 JX3 JXl JY0 JY1 JY2 JY3 JYl Ja0 Ja1 Ja2 Ja3 Jal Jb0 Jb1 Jb2 Jb3 Jbl JN0 JN1 JN2 JN3 JNl lb
    replace JX := JX.below z
    replace JY := JY.below z
    replace Ja := Ja.below z
    replace Jb := Jb.below z
    replace JN := JN.below z
    replace B := below_next B z
    clear z
    go_wp2
    rw [HQ.out]
    exact cutEnd ⟨by kernel_rfl, JX, JY, Ja, Jb, JN, B⟩ (by kernel_rfl)
   ·
    have d2 : decide ((9223372036854775808 : Int) ≤ ub M) = false := decide_eq_false (by rw [UM.out]; intro q; exact hH.out (.inr ⟨he, .inl ⟨rfl, by omega⟩⟩))
    clear he
    obtain ⟨JXl, JX0, JX1, JX2, JX3⟩ := JX.k
    obtain ⟨JYl, JY0, JY1, JY2, JY3⟩ := JY.k
    obtain ⟨Jal, Ja0, Ja1, Ja2, Ja3⟩ := Ja.k
    obtain ⟨Jbl, Jb0, Jb1, Jb2, Jb3⟩ := Jb.k
    obtain ⟨JNl, JN0, JN1, JN2, JN3⟩ := JN.k
    have lb := B.size
    go_wp2_with fail
    refine (XP.out _).mono ?_
    rintro e wa ⟨rfl, z⟩
    clear JX0 JX1 JX2 JX3 JXl JY0 JY1 JY2 JY3 JYl Ja0 Ja1 Ja2 Ja3 Jal Jb0 Jb1 Jb2 Jb3 Jbl JN0 JN1 JN2 JN3 JNl lb
    replace JX := JX.below z
    replace JY := JY.below z
    replace Ja := Ja.below z
    replace Jb := Jb.below z
    replace JN := JN.below z
    replace B := below_next B z
    clear z
    obtain ⟨JXl, JX0, JX1, JX2, JX3⟩ := JX.k
    obtain ⟨JYl, JY0, JY1, JY2, JY3⟩ := JY.k
    obtain ⟨Jal, Ja0, Ja1, Ja2, Ja3⟩ := Ja.k
    obtain ⟨Jbl, Jb0, Jb1, Jb2, Jb3⟩ := Jb.k
    obtain ⟨JNl, JN0, JN1, JN2, JN3⟩ := JN.k
    have lb := B.size
    go_wp2_with fail
    refine (XP.out _).mono ?_
    rintro e wb ⟨rfl, z⟩
    clear JX0 JX1 JX2 JX3 JXl JY0 JY1 JY2 JY3 JYl Ja0 Ja1 Ja2 Ja3 Jal Jb0 Jb1 Jb2 Jb3 Jbl JN0 JN1 JN2 JN3 JNl lb
    replace JX := JX.below z
    replace JY := JY.below z
    replace Ja := Ja.below z
    replace Jb := Jb.below z
    replace JN := JN.below z
    replace B := below_next B z
    clear z
    go_wp2
    rw [HQ.out]
    exact cutEnd ⟨by kernel_rfl, JX, JY, Ja, Jb, JN, B⟩ (by kernel_rfl)
 clear JX JY Ja Jb JN B
 intro w9 u0 u65 u66 u67 u68 u69 u70 u71 u72 u73 u74 u75 u76 u77 u78 u79 u80 u81 u82 u83 u84 u85 hF
 obtain ⟨e0, JX, JY, Ja, Jb, JN, B⟩ := hF
 obtain rfl : u0 = _ := e0
 simp only [sets, s1, s2, s3]
 try simp only [Exit.then]
 clear UM hH HQ XP X1 X2 X3 XO
 refine wp_seq ?_
 apply cutGG (F := fun g h_ W' => SC W' g ((v, m), l, h) ∧ SC W' h_ ((v', m'), l', h') ∧ (gn < g ∧ gn < h_ ∧ g ≠ h_) ∧ SC W' (w.heap.size) ((v, m), l, h) ∧ SC W' (w.heap.size + 1) ((v', m'), l', h') ∧ SC W' (w.heap.size + 1 + 1) (sc0) ∧ SC W' (w.heap.size + 1 + 1 + 1) (sc0) ∧ SC W' (gn) (sc0) ∧ Below w.heap.size w W')
 ·
  obtain ⟨JXl, JX0, JX1, JX2, JX3⟩ := JX.k
  obtain ⟨JYl, JY0, JY1, JY2, JY3⟩ := JY.k
  obtain ⟨Jal, Ja0, Ja1, Ja2, Ja3⟩ := Ja.k
  obtain ⟨Jbl, Jb0, Jb1, Jb2, Jb3⟩ := Jb.k
  obtain ⟨JNl, JN0, JN1, JN2, JN3⟩ := JN.k
  have lb := B.size
  have gl := JN.lt
  go_region
  all_goals
   obtain ⟨h2, hh2⟩ : ∃ h_, w9.heap.size + 1 = h_ := ⟨_, rfl⟩
   obtain ⟨g2, hg2⟩ : ∃ g, w9.heap.size = g := ⟨_, rfl⟩
   first
    | (refine ⟨g2, h2, ⟨?_, ?_, ⟨by omega, by omega, by omega⟩, ((JX.alloc _).alloc _).below (below_dr _), ((JY.alloc _).alloc _).below (below_dr _), ((Ja.alloc _).alloc _).below (below_dr _), ((Jb.alloc _).alloc _).below (below_dr _), ((JN.alloc _).alloc _).below (below_dr _), below_next (bel_alloc (bel_alloc B)) (below_dr _)⟩, ?_⟩
       · rw [← hg2]; exact (twoB ((v, m), l, h) ((v', m'), l', h') _ _ rfl rfl).1
       · rw [← hh2]; exact (twoB ((v, m), l, h) ((v', m'), l', h') _ _ rfl rfl).2
       · rw [hh2, hg2])
    | (refine ⟨h2, g2, ⟨?_, ?_, ⟨by omega, by omega, by omega⟩, ((JX.alloc _).alloc _).below (below_dr _), ((JY.alloc _).alloc _).below (below_dr _), ((Ja.alloc _).alloc _).below (below_dr _), ((Jb.alloc _).alloc _).below (below_dr _), ((JN.alloc _).alloc _).below (below_dr _), below_next (bel_alloc (bel_alloc B)) (below_dr _)⟩, ?_⟩
       · rw [← hh2]; exact (twoB ((v', m'), l', h') ((v, m), l, h) _ _ rfl rfl).2
       · rw [← hg2]; exact (twoB ((v', m'), l', h') ((v, m), l, h) _ _ rfl rfl).1
       · rw [hh2, hg2])
 clear JX JY Ja Jb JN B
 intro gm gk w40 ⟨Jm, Jn, ⟨lm, lk, lmk⟩, JX, JY, Ja, Jb, JN, B⟩
 try simp only [Exit.then]
 refine wp_seq ?_
 refine cutS [19, 20] (fun us W' => us.getD 0 undef = .bool true ∧ us.getD 1 undef = .bool true ∧ FBx w W' ((v, m), l, h) ((v', m'), l', h') (sc0) (sc0) (SC W' (gn) (sc0) ∧ SC W' (gm) ((v, m), l, h) ∧ SC W' (gk) ((v', m'), l', h') ∧ Below w.heap.size w W')) ?_ ?_
 ·
  go_wp2
  exact cutEnd ⟨by kernel_rfl, by kernel_rfl, JX, JY, Ja, Jb, JN, Jm, Jn, B⟩ (by kernel_rfl)
 clear JX JY Ja Jb JN Jm Jn B
 intro w10 u19 u20 hF
 obtain ⟨e19, e20, JX, JY, Ja, Jb, JN, Jm, Jn, B⟩ := hF
 obtain rfl : u19 = _ := e19
 obtain rfl : u20 = _ := e20
 simp only [sets, s1, s2, s3]
 try simp only [Exit.then]
 have f1 : decide ((0 : Int) < ub ((v ||| m) &&& (v' ||| m'))) = true := decide_eq_true (by have h0 : (((v ||| m) &&& (v' ||| m'))).toNat ≠ 0 := fun q => HT.out (BitVec.eq_of_toNat_eq q); unfold ub; omega)
 clear HT
 refine wp_seq ?_
 refine cutS [19, 20, 88, 89, 90, 98, 99, 120, 121, 152, 153, 170, 171, 202, 203, 220, 221, 222, 223, 224, 225, 226, 227, 228, 229, 230, 231, 232, 233, 234, 235, 236, 237] (fun us W' => us.getD 0 undef = .bool true ∧ us.getD 1 undef = .bool true ∧ FBx w W' ((v, m), l, h) ((v', m'), l', h') (sc0) (sc0) (SC W' (gn) (sc0) ∧ SC W' (gm) ((v, m), l, h) ∧ SC W' (gk) ((v', m'), l', h') ∧ Below w.heap.size w W')) ?_ ?_
 ·
  obtain ⟨JXl, JX0, JX1, JX2, JX3⟩ := JX.k
  obtain ⟨JYl, JY0, JY1, JY2, JY3⟩ := JY.k
  obtain ⟨Jal, Ja0, Ja1, Ja2, Ja3⟩ := Ja.k
  obtain ⟨Jbl, Jb0, Jb1, Jb2, Jb3⟩ := Jb.k
  obtain ⟨JNl, JN0, JN1, JN2, JN3⟩ := JN.k
  obtain ⟨Jml, Jm0, Jm1, Jm2, Jm3⟩ := Jm.k
  obtain ⟨Jnl, Jn0, Jn1, Jn2, Jn3⟩ := Jn.k
  have lb := B.size
  obtain ⟨Jmf0, Jmf1, Jmf2, Jmf3⟩ := Jm.f
  obtain ⟨Jnf0, Jnf1, Jnf2, Jnf3⟩ := Jn.f
  go_wp2
  exact cutEnd ⟨by kernel_rfl, by kernel_rfl, JX, JY, Ja, Jb, JN, Jm, Jn, B⟩ (by kernel_rfl)
 clear JX JY Ja Jb JN Jm Jn B
 intro w11 u19 u20 u88 u89 u90 u98 u99 u120 u121 u152 u153 u170 u171 u202 u203 u220 u221 u222 u223 u224 u225 u226 u227 u228 u229 u230 u231 u232 u233 u234 u235 u236 u237 hF
 obtain ⟨e19, e20, JX, JY, Ja, Jb, JN, Jm, Jn, B⟩ := hF
 obtain rfl : u19 = _ := e19
 obtain rfl : u20 = _ := e20
 simp only [sets, s1, s2, s3]
 try simp only [Exit.then]
 clear f1
 obtain ⟨JXl, JX0, JX1, JX2, JX3⟩ := JX.k
 obtain ⟨JYl, JY0, JY1, JY2, JY3⟩ := JY.k
 obtain ⟨Jal, Ja0, Ja1, Ja2, Ja3, Jaf0, Jaf1, Jaf2, Jaf3⟩ := id Ja
 obtain ⟨Jbl, Jb0, Jb1, Jb2, Jb3, Jbf0, Jbf1, Jbf2, Jbf3⟩ := id Jb
 obtain ⟨JNl, JN0, JN1, JN2, JN3⟩ := JN.k
 obtain ⟨Jml, Jm0, Jm1, Jm2, Jm3, Jmf0, Jmf1, Jmf2, Jmf3⟩ := id Jm
 obtain ⟨Jnl, Jn0, Jn1, Jn2, Jn3, Jnf0, Jnf1, Jnf2, Jnf3⟩ := id Jn
 have lb := B.size
 go_wp2_with fail
 clear JX0 JX1 JX2 JX3 JXl JY0 JY1 JY2 JY3 JYl Ja0 Ja1 Ja2 Ja3 Jal Jaf0 Jaf1 Jaf2 Jaf3 Jb0 Jb1 Jb2 Jb3 Jbl Jbf0 Jbf1 Jbf2 Jbf3 JN0 JN1 JN2 JN3 JNl Jm0 Jm1 Jm2 Jm3 Jml Jmf0 Jmf1 Jmf2 Jmf3 Jn0 Jn1 Jn2 Jn3 Jnl Jnf0 Jnf1 Jnf2 Jnf3 lb
 obtain ⟨JXdl, JXd0, JXd1, JXd2, JXd3, JXdf0, JXdf1, JXdf2, JXdf3⟩ := id JX
 obtain ⟨JYdl, JYd0, JYd1, JYd2, JYd3, JYdf0, JYdf1, JYdf2, JYdf3⟩ := id JY
 obtain ⟨Jadl, Jad0, Jad1, Jad2, Jad3, Jadf0, Jadf1, Jadf2, Jadf3⟩ := id Ja
 obtain ⟨Jbdl, Jbd0, Jbd1, Jbd2, Jbd3, Jbdf0, Jbdf1, Jbdf2, Jbdf3⟩ := id Jb
 obtain ⟨JNdl, JNd0, JNd1, JNd2, JNd3, JNdf0, JNdf1, JNdf2, JNdf3⟩ := id JN
 obtain ⟨Jmdl, Jmd0, Jmd1, Jmd2, Jmd3, Jmdf0, Jmdf1, Jmdf2, Jmdf3⟩ := id Jm
 obtain ⟨Jndl, Jnd0, Jnd1, Jnd2, Jnd3, Jndf0, Jndf1, Jndf2, Jndf3⟩ := id Jn
 have ld := B.size
 apply cutF (F := fun W' => SC W' (w.heap.size) ((v, m), l, h) ∧ SC W' (w.heap.size + 1) ((v', m'), l', h') ∧ SC W' (w.heap.size + 1 + 1) (((v, m), l, h)) ∧ SC W' (w.heap.size + 1 + 1 + 1) (((v', m'), l', h')) ∧ SC W' (gn) sc0 ∧ SC W' (gm) ((v, m), l, h) ∧ SC W' (gk) ((v', m'), l', h') ∧ Below w.heap.size w W')
 ·
  go_region
  all_goals exact ⟨⟨(((JX.other (c := w.heap.size + 1 + 1) (by omega) (((v, m), l, h))).other (c := w.heap.size + 1 + 1 + 1) (by omega) (((v', m'), l', h'))).below (below_dr _)), (((JY.other (c := w.heap.size + 1 + 1) (by omega) (((v, m), l, h))).other (c := w.heap.size + 1 + 1 + 1) (by omega) (((v', m'), l', h'))).below (below_dr _)), (((Ja.put (((v, m), l, h))).other (c := w.heap.size + 1 + 1 + 1) (by omega) (((v', m'), l', h'))).below (below_dr _)), (((Jb.other (c := w.heap.size + 1 + 1) (by omega) (((v, m), l, h))).put (((v', m'), l', h'))).below (below_dr _)), (((JN.other (c := w.heap.size + 1 + 1) (by omega) (((v, m), l, h))).other (c := w.heap.size + 1 + 1 + 1) (by omega) (((v', m'), l', h'))).below (below_dr _)), (((Jm.other (c := w.heap.size + 1 + 1) (by omega) (((v, m), l, h))).other (c := w.heap.size + 1 + 1 + 1) (by omega) (((v', m'), l', h'))).below (below_dr _)), (((Jn.other (c := w.heap.size + 1 + 1) (by omega) (((v, m), l, h))).other (c := w.heap.size + 1 + 1 + 1) (by omega) (((v', m'), l', h'))).below (below_dr _)), below_next (putS_below (((v', m'), l', h')) (putS_below (((v, m), l, h)) B (by omega : w.heap.size ≤ w.heap.size + 1 + 1)) (by omega : w.heap.size ≤ w.heap.size + 1 + 1 + 1)) (below_dr _)⟩, rfl⟩
 clear JXd0 JXd1 JXd2 JXd3 JXdl JXdf0 JXdf1 JXdf2 JXdf3 JYd0 JYd1 JYd2 JYd3 JYdl JYdf0 JYdf1 JYdf2 JYdf3 Jad0 Jad1 Jad2 Jad3 Jadl Jadf0 Jadf1 Jadf2 Jadf3 Jbd0 Jbd1 Jbd2 Jbd3 Jbdl Jbdf0 Jbdf1 Jbdf2 Jbdf3 JNd0 JNd1 JNd2 JNd3 JNdl JNdf0 JNdf1 JNdf2 JNdf3 Jmd0 Jmd1 Jmd2 Jmd3 Jmdl Jmdf0 Jmdf1 Jmdf2 Jmdf3 Jnd0 Jnd1 Jnd2 Jnd3 Jndl Jndf0 Jndf1 Jndf2 Jndf3 ld
 clear JX JY Ja Jb JN Jm Jn B
 intro w61 ⟨JX, JY, Ja, Jb, JN, Jm, Jn, B⟩
 obtain ⟨JXl, JX0, JX1, JX2, JX3⟩ := JX.k
 obtain ⟨JYl, JY0, JY1, JY2, JY3⟩ := JY.k
 obtain ⟨Jal, Ja0, Ja1, Ja2, Ja3, Jaf0, Jaf1, Jaf2, Jaf3⟩ := id Ja
 obtain ⟨Jbl, Jb0, Jb1, Jb2, Jb3, Jbf0, Jbf1, Jbf2, Jbf3⟩ := id Jb
 obtain ⟨JNl, JN0, JN1, JN2, JN3⟩ := JN.k
 obtain ⟨Jml, Jm0, Jm1, Jm2, Jm3, Jmf0, Jmf1, Jmf2, Jmf3⟩ := id Jm
 obtain ⟨Jnl, Jn0, Jn1, Jn2, Jn3, Jnf0, Jnf1, Jnf2, Jnf3⟩ := id Jn
 have lb := B.size
 go_wp2
 exact bodyPost_ret (v := .tuple #[sv ((v, m), l, h), sv ((v', m'), l', h'), .bool true]) (by simp [results, Tryz.results30, go_sem, JX.k, JY.k, Ja.k, Jb.k, JN.k, Jm.k, Jn.k]; try first | rfl | exact ⟨rfl, rfl⟩) rfl ⟨rfl, B⟩
end Go.Proofs.YtodmikjpmcabiaaGreat
