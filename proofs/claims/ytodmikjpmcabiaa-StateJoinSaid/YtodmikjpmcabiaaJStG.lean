/-
  Contracts of slotHolds, slotIn. Contract of slotJoin. Contract of slotIn.
-/
import Derived.Test.YtodmikjpmcabiaaJStD
import Derived.Deep.RegionHeld3
import Derived.Deep.RegionLaw
namespace Go.Proofs.Ytodmikjpmcabiaa
set_option linter.unusedSimpArgs false
set_option linter.unusedVariables false
set_option maxRecDepth 100000
set_option maxRecDepth 100000
open Go.ChangeShapes Go.WideShapes Go.ChangeAt Go.RowKit Me

theorem hb_vb (x : B8) : byI (vb x) = x := by
  unfold byI
  rw [vb_nat]
  apply BitVec.eq_of_toNat_eq
  rw [BitVec.toNat_ofNat]
  have := x.isLt
  omega
theorem vb_andNot (x y : B8) : bits .andNot .u8 (vb x) (vb y) = vb (x &&& ~~~y) := by
  rw [u8_andNot _ _ (vb_ge x) (vb_lt x) (vb_ge y) (vb_lt y), vb_nat, vb_nat]; unfold vb
  rw [BitVec.toNat_and, BitVec.toNat_not]
theorem vb_sub (x y : B8) : (bits .andNot .u8 (vb x) (vb y) == 0) = sub8 x y := by
  rw [vb_andNot, show (0 : Int) = vb 0#8 from rfl, vb_eqi]; rfl
theorem bytes_at {w : World} {o : Obj} {h k m n p : Int} {t : TypeId} {y0 y1 y2 y3 y4 y5 y6 y7 : Int} : ((w.alloc o).alloc (.cells #[.int .u8 h, .int .u8 y0, .int .u8 y1, .int .u8 y2, .int .u8 y3, .int .u8 y4, .int .u8 y5, .int .u8 y6, .int .u8 y7, .int .u8 k, .int .i64 m, .int .u64 n, .int .i64 p] t)).rangeAt (w.heap.size + 1) 1 (bC [y0, y1, y2, y3, y4, y5, y6, y7]) := by
  intro j v hv
  have hj : j < 8 := by have := (List.getElem?_eq_some_iff.1 hv).1; simpa [bC] using this
  have : j = 0 ∨ j = 1 ∨ j = 2 ∨ j = 3 ∨ j = 4 ∨ j = 5 ∨ j = 6 ∨ j = 7 := by omega
  rcases this with rfl | rfl | rfl | rfl | rfl | rfl | rfl | rfl <;> (simp [bC] at hv; subst hv; simp)
theorem get8 (g : Nat) (l : List Int) (hl : l.length = 8) (hb' : ∀ x ∈ l, 0 ≤ x ∧ x < 256) (W : World) (hr : W.rangeAt g 1 (bC l)) : Calls Try.prog 123 #[.slice (some ⟨g, 1, none⟩) 8 8, .int .i64 0, .int .i64 8] W fun e w' => e = .returned (.tuple #[.int .u64 (numL l), .int .i64 0]) ∧ W = w' := by
  have G := Get_any (.slice (some ⟨g, 1, none⟩) 8 8) l 0 8 W (.inl ⟨g, 1, 8, by rw [hl], by rw [hl]; decide, hr⟩) hb' (by rw [hl]; decide) (by decide)
  have e : getE l.length 0 8 = 0 := by rw [hl]; decide
  have n : getN l 0 8 = numL l := by
    unfold getN
    rw [if_pos e]
    congr 1
    unfold partL
    exact List.take_of_length_le (by simp [hl])
  rw [e, n] at G
  exact G
set_option maxHeartbeats 4000000 in
theorem kHolds_any (x : Sk) (s : Sl) (hs : SOk s) (p : Int) (hp : 0 ≤ p ∧ p ≤ 65535) (w : World) : Calls Try.prog 88 #[kV x, sV s, .int .i64 p] w fun e w' => e = .returned (.bool (kHolds x s p)) ∧ Below w.heap.size w w' := by
  have NV := fun W => neq_v s.v v0 W
  have RA := fun W => rHolds_any x.r s.v hs.2.2.2 p hp W
  have hN := numL_bd s.b hs.2.2.1
  rw [hs.2.1] at hN
  have RN := fun W => rHolds_any x.r ⟨1, 0, numL s.b, 0⟩ (by unfold VOk; dsimp only; omega) p hp W
  have GT := get8 (w.heap.size + 1) s.b hs.2.1 hs.2.2.1
  obtain ⟨sb, hsb⟩ := vb_of s.h hs.1.1 hs.1.2
  have hq := vb_sub x.h sb
  have hh := vb_eqi x.h 0#8
  rw [show vb 0#8 = 0 from rfl] at hh
  have BL := bld_v0
  unfold kHolds
  rw [← vB_dec]
  have hif : (s.v = v0) = (vB s.v v0 = true) := by rw [vB_iff]
  simp only [hif]
  clear hif hN
  obtain ⟨sh, sbb, sv'⟩ := s
  dsimp only at *
  subst hsb
  rw [hb_vb]
  generalize vB sv' v0 = va at *
  generalize sub8 x.h sb = q at *
  generalize rHolds x.r sv' p = q1 at *
  generalize rHolds x.r ⟨1, 0, numL sbb, 0⟩ p = q2 at *
  obtain ⟨y0, y1, y2, y3, y4, y5, y6, y7, rfl⟩ := eight hs.2.1
  clear hs
  obtain ⟨vk, vm, vn, vo⟩ := sv'
  obtain ⟨h, r⟩ := x
  dsimp only at *
  generalize (h == 0#8) = hz at *
  generalize numL [y0, y1, y2, y3, y4, y5, y6, y7] = NN at *
  unfold vV at NV RA RN
  unfold rV at RA RN
  unfold v0 at NV
  dsimp only at NV RA RN
  rw [sV_eight]
  unfold kV
  dsimp only
  replace RA := hid RA
  replace RN := hid RN
  replace GT := hid GT
  obtain ⟨k, l, m, s, lo, hi⟩ := r
  dsimp only at *
  have e255 : (vb sb == 255) = (vb sb == 255) := rfl
  generalize hg : vb sb = H at *
  clear hg
  by_cases k0 : k = 0
  · rw [if_pos k0]
    subst k0
    clear RA RN GT
    cases hz
    · rw [Bool.false_or]
      cases va
      · rw [Bool.false_and]
        go_enter Try.func88, Try.ntmps88
        go_wp2
        go_ret
        exact ⟨rfl, bel_alloc (bel_alloc (Below.refl _ _))⟩
      · rw [Bool.true_and]
        go_enter Try.func88, Try.ntmps88
        go_wp2
        go_ret
        exact ⟨rfl, bel_alloc (bel_alloc (Below.refl _ _))⟩
    · rw [Bool.true_or]
      go_enter Try.func88, Try.ntmps88
      go_wp2
      go_ret
      exact ⟨rfl, bel_alloc (bel_alloc (Below.refl _ _))⟩
  rw [if_neg k0]
  have e0 : (k == 0) = false := by simpa using k0
  clear hq hh k0
  cases va
  · rw [if_neg (by decide)]
    clear RN GT
    go_enter Try.func88, Try.ntmps88
    go_wp2_with fail
    refine (RA.out _).mono ?_
    rintro e w1 ⟨rfl, z⟩
    have B := below_next (bel_alloc (bel_alloc (Below.refl w.heap.size w))) z
    clear z
    go_wp2
    go_ret
    exact ⟨rfl, B⟩
  · rw [if_pos rfl]
    clear RA
    cases h255 : (H == 255)
    · rw [Bool.false_and]
      go_enter Try.func88, Try.ntmps88
      go_wp2_with fail
      refine (GT.out _ bytes_at).mono ?_
      rintro e w_ ⟨rfl, rfl⟩
      go_wp2
      go_ret
      exact ⟨rfl, bel_alloc (bel_alloc (Below.refl _ _))⟩
    · rw [Bool.true_and]
      go_enter Try.func88, Try.ntmps88
      go_wp2_with fail
      refine (GT.out _ bytes_at).mono ?_
      rintro e w_ ⟨rfl, rfl⟩
      go_wp2_with fail
      refine (RN.out _).mono ?_
      rintro e w1 ⟨rfl, z⟩
      have B := below_next (bel_alloc (bel_alloc (Below.refl w.heap.size w))) z
      clear z
      go_wp2
      go_ret
      exact ⟨rfl, B⟩
end Go.Proofs.Ytodmikjpmcabiaa

namespace Go.Proofs.Ytodmikjpmcabiaa
set_option linter.unusedSimpArgs false
set_option linter.unusedVariables false
set_option maxRecDepth 100000
set_option maxRecDepth 100000
open Go.ChangeShapes Go.WideShapes Go.ChangeAt Go.RowKit Me

theorem bld_k_h (h : Int) (W : World) : (Instr.build 33 #[(0, .int .u8 h)]).run Try.prog W = .ok (.agg #[.int .u8 h, .int .u8 0, .bool false, .int .i64 0, .int .u64 0, .int .u64 0, .int .u64 0, .int .u64 0, .int .i64 0, .int .i64 0]) W := by kernel_rfl
theorem bld_k_r (h k m s1 s2 s3 s4 lo hi : Int) (l : Bool) (W : World) : (Instr.build 33 #[(0, .int .u8 h), (1, .agg #[.int .u8 k, .bool l, .int .i64 m, .int .u64 s1, .int .u64 s2, .int .u64 s3, .int .u64 s4, .int .i64 lo, .int .i64 hi])]).run Try.prog W = .ok (.agg #[.int .u8 h, .int .u8 k, .bool l, .int .i64 m, .int .u64 s1, .int .u64 s2, .int .u64 s3, .int .u64 s4, .int .i64 lo, .int .i64 hi]) W := by kernel_rfl
theorem vb_and (x y : B8) : bits .and .u8 (vb x) (vb y) = vb (x &&& y) := by
  rw [u8_and _ _ (vb_ge x) (vb_lt x) (vb_ge y) (vb_lt y), vb_nat, vb_nat]; unfold vb
  rw [BitVec.toNat_and]
set_option maxHeartbeats 8000000 in
theorem kJoin_any (a b : Sk) (ha : ROk a.r) (hb' : ROk b.r) (w : World) : Calls Try.prog 33 #[kV a, kV b] w fun e w' => e = .returned (kV (kJoin a b)) ∧ Below w.heap.size w w' := by
  have RJ := fun W => regJoin_any a.r b.r ha hb' W
  have SA := fun W => sure_any a W
  have SB := fun W => sure_any b W
  have hAnd := vb_and (sure a) (sure b)
  obtain ⟨R, hR⟩ : ∃ R, R = kJoin a b := ⟨_, rfl⟩
  rw [← hR]
  unfold kJoin at hR
  generalize rJoin a.r b.r = J at *
  generalize sure a &&& sure b = M at *
  generalize sure a = S1 at *
  generalize sure b = S2 at *
  clear ha hb'
  obtain ⟨h1, k1, l1, m1, s1, lo1, hi1⟩ := a
  obtain ⟨h2, k2, l2, m2, s2, lo2, hi2⟩ := b
  obtain ⟨kk, l, m, s, lo, hi⟩ := J
  dsimp only at *
  unfold rV at RJ
  unfold kV at SA SB ⊢
  dsimp only at *
  replace RJ := hid RJ
  replace SA := hid SA
  replace SB := hid SB
  by_cases k0 : kk = 0
  · rw [if_pos k0] at hR
    subst k0
    subst hR
    have BL := bld_k_h
    go_enter Try.func33, Try.ntmps33
    go_wp2_with fail
    refine (RJ.out _).mono ?_
    rintro e w1 ⟨rfl, z⟩
    have JX : KC w1 (w.heap.size) (⟨h1, ⟨k1, l1, m1, s1, lo1, hi1⟩⟩) := (((KC.new rfl).alloc _).alloc _).below z
    have JY : KC w1 (w.heap.size + 1) (⟨h2, ⟨k2, l2, m2, s2, lo2, hi2⟩⟩) := ((KC.new (by simp)).alloc _).below z
    have JR : KC w1 (w.heap.size + 1 + 1) (k0) := (KC.new (by simp)).below z
    have B := below_next (bel_alloc (bel_alloc (bel_alloc (Below.refl w.heap.size w)))) z
    clear z
    have JX0 := JX.c0
    have JX1 := JX.c1
    have JX2 := JX.c2
    have JX3 := JX.c3
    have JX4 := JX.c4
    have JX5 := JX.c5
    have JX6 := JX.c6
    have JX7 := JX.c7
    have JX8 := JX.c8
    have JX9 := JX.c9
    have JXl := JX.lt
    have JY0 := JY.c0
    have JY1 := JY.c1
    have JY2 := JY.c2
    have JY3 := JY.c3
    have JY4 := JY.c4
    have JY5 := JY.c5
    have JY6 := JY.c6
    have JY7 := JY.c7
    have JY8 := JY.c8
    have JY9 := JY.c9
    have JYl := JY.lt
    have JR0 := JR.c0
    have JR1 := JR.c1
    have JR2 := JR.c2
    have JR3 := JR.c3
    have JR4 := JR.c4
    have JR5 := JR.c5
    have JR6 := JR.c6
    have JR7 := JR.c7
    have JR8 := JR.c8
    have JR9 := JR.c9
    have JRl := JR.lt
    have JRf0 := JR.f0
    have JRf1 := JR.f1
    have JRf2 := JR.f2
    have JRf3 := JR.f3
    have JRf4 := JR.f4
    have JRf5 := JR.f5
    have JRf6 := JR.f6
    have JRf7 := JR.f7
    have JRf8 := JR.f8
    have JRf9 := JR.f9
    have lb := B.size
    go_wp2_with fail
    clear JX0 JX1 JX2 JX3 JX4 JX5 JX6 JX7 JX8 JX9 JXl JY0 JY1 JY2 JY3 JY4 JY5 JY6 JY7 JY8 JY9 JYl JR0 JR1 JR2 JR3 JR4 JR5 JR6 JR7 JR8 JR9 JRl JRf0 JRf1 JRf2 JRf3 JRf4 JRf5 JRf6 JRf7 JRf8 JRf9 lb
    replace JX := JX.alloc (.cells #[.int .u8 0, .bool l, .int .i64 m, .int .u64 (ub s.1.1), .int .u64 (ub s.1.2), .int .u64 (ub s.2.1), .int .u64 (ub s.2.2), .int .i64 lo, .int .i64 hi] 30)
    replace JY := JY.alloc (.cells #[.int .u8 0, .bool l, .int .i64 m, .int .u64 (ub s.1.1), .int .u64 (ub s.1.2), .int .u64 (ub s.2.1), .int .u64 (ub s.2.2), .int .i64 lo, .int .i64 hi] 30)
    replace JR := JR.alloc (.cells #[.int .u8 0, .bool l, .int .i64 m, .int .u64 (ub s.1.1), .int .u64 (ub s.1.2), .int .u64 (ub s.2.1), .int .u64 (ub s.2.2), .int .i64 lo, .int .i64 hi] 30)
    replace B := bel_alloc (o := (.cells #[.int .u8 0, .bool l, .int .i64 m, .int .u64 (ub s.1.1), .int .u64 (ub s.1.2), .int .u64 (ub s.2.1), .int .u64 (ub s.2.2), .int .i64 lo, .int .i64 hi] 30)) B
    generalize w1.alloc (.cells #[.int .u8 0, .bool l, .int .i64 m, .int .u64 (ub s.1.1), .int .u64 (ub s.1.2), .int .u64 (ub s.2.1), .int .u64 (ub s.2.2), .int .i64 lo, .int .i64 hi] 30) = w2 at *
    have JX0 := JX.c0
    have JX1 := JX.c1
    have JX2 := JX.c2
    have JX3 := JX.c3
    have JX4 := JX.c4
    have JX5 := JX.c5
    have JX6 := JX.c6
    have JX7 := JX.c7
    have JX8 := JX.c8
    have JX9 := JX.c9
    have JXl := JX.lt
    have JY0 := JY.c0
    have JY1 := JY.c1
    have JY2 := JY.c2
    have JY3 := JY.c3
    have JY4 := JY.c4
    have JY5 := JY.c5
    have JY6 := JY.c6
    have JY7 := JY.c7
    have JY8 := JY.c8
    have JY9 := JY.c9
    have JYl := JY.lt
    have JR0 := JR.c0
    have JR1 := JR.c1
    have JR2 := JR.c2
    have JR3 := JR.c3
    have JR4 := JR.c4
    have JR5 := JR.c5
    have JR6 := JR.c6
    have JR7 := JR.c7
    have JR8 := JR.c8
    have JR9 := JR.c9
    have JRl := JR.lt
    have JRf0 := JR.f0
    have JRf1 := JR.f1
    have JRf2 := JR.f2
    have JRf3 := JR.f3
    have JRf4 := JR.f4
    have JRf5 := JR.f5
    have JRf6 := JR.f6
    have JRf7 := JR.f7
    have JRf8 := JR.f8
    have JRf9 := JR.f9
    have lb := B.size
    go_wp2_with fail
    clear JX0 JX1 JX2 JX3 JX4 JX5 JX6 JX7 JX8 JX9 JXl JY0 JY1 JY2 JY3 JY4 JY5 JY6 JY7 JY8 JY9 JYl JR0 JR1 JR2 JR3 JR4 JR5 JR6 JR7 JR8 JR9 JRl JRf0 JRf1 JRf2 JRf3 JRf4 JRf5 JRf6 JRf7 JRf8 JRf9 lb
    replace JX := JX.below (below_dr w2)
    replace JY := JY.below (below_dr w2)
    replace JR := JR.below (below_dr w2)
    replace B := below_next B (below_dr w2)
    have JXd0 := JX.c0
    have JXd1 := JX.c1
    have JXd2 := JX.c2
    have JXd3 := JX.c3
    have JXd4 := JX.c4
    have JXd5 := JX.c5
    have JXd6 := JX.c6
    have JXd7 := JX.c7
    have JXd8 := JX.c8
    have JXd9 := JX.c9
    have JXdl := JX.lt
    have JXdf0 := JX.f0
    have JXdf1 := JX.f1
    have JXdf2 := JX.f2
    have JXdf3 := JX.f3
    have JXdf4 := JX.f4
    have JXdf5 := JX.f5
    have JXdf6 := JX.f6
    have JXdf7 := JX.f7
    have JXdf8 := JX.f8
    have JXdf9 := JX.f9
    have JYd0 := JY.c0
    have JYd1 := JY.c1
    have JYd2 := JY.c2
    have JYd3 := JY.c3
    have JYd4 := JY.c4
    have JYd5 := JY.c5
    have JYd6 := JY.c6
    have JYd7 := JY.c7
    have JYd8 := JY.c8
    have JYd9 := JY.c9
    have JYdl := JY.lt
    have JYdf0 := JY.f0
    have JYdf1 := JY.f1
    have JYdf2 := JY.f2
    have JYdf3 := JY.f3
    have JYdf4 := JY.f4
    have JYdf5 := JY.f5
    have JYdf6 := JY.f6
    have JYdf7 := JY.f7
    have JYdf8 := JY.f8
    have JYdf9 := JY.f9
    have JRd0 := JR.c0
    have JRd1 := JR.c1
    have JRd2 := JR.c2
    have JRd3 := JR.c3
    have JRd4 := JR.c4
    have JRd5 := JR.c5
    have JRd6 := JR.c6
    have JRd7 := JR.c7
    have JRd8 := JR.c8
    have JRd9 := JR.c9
    have JRdl := JR.lt
    have JRdf0 := JR.f0
    have JRdf1 := JR.f1
    have JRdf2 := JR.f2
    have JRdf3 := JR.f3
    have JRdf4 := JR.f4
    have JRdf5 := JR.f5
    have JRdf6 := JR.f6
    have JRdf7 := JR.f7
    have JRdf8 := JR.f8
    have JRdf9 := JR.f9
    have ld := B.size
    have hu : undef = Value.tuple #[] := rfl
    apply cutF (F := fun W' => KC W' (w.heap.size) ⟨h1, ⟨k1, l1, m1, s1, lo1, hi1⟩⟩ ∧ KC W' (w.heap.size + 1) ⟨h2, ⟨k2, l2, m2, s2, lo2, hi2⟩⟩ ∧ KC W' (w.heap.size + 1 + 1) (⟨M, r0⟩) ∧ Below w.heap.size w W')
    · first | (go_region_law (first | (go_simp; go_at_call 80; (with_reducible refine (SA.out _).mono ?_); rintro e wq1 ⟨rfl, bq1⟩; have JX_1 := JX.below bq1; have JXq10 := JX_1.c0; have JXq11 := JX_1.c1; have JXq12 := JX_1.c2; have JXq13 := JX_1.c3; have JXq14 := JX_1.c4; have JXq15 := JX_1.c5; have JXq16 := JX_1.c6; have JXq17 := JX_1.c7; have JXq18 := JX_1.c8; have JXq19 := JX_1.c9; have JXq1l := JX_1.lt; have JXq1f0 := JX_1.f0; have JXq1f1 := JX_1.f1; have JXq1f2 := JX_1.f2; have JXq1f3 := JX_1.f3; have JXq1f4 := JX_1.f4; have JXq1f5 := JX_1.f5; have JXq1f6 := JX_1.f6; have JXq1f7 := JX_1.f7; have JXq1f8 := JX_1.f8; have JXq1f9 := JX_1.f9; have JY_1 := JY.below bq1; have JYq10 := JY_1.c0; have JYq11 := JY_1.c1; have JYq12 := JY_1.c2; have JYq13 := JY_1.c3; have JYq14 := JY_1.c4; have JYq15 := JY_1.c5; have JYq16 := JY_1.c6; have JYq17 := JY_1.c7; have JYq18 := JY_1.c8; have JYq19 := JY_1.c9; have JYq1l := JY_1.lt; have JYq1f0 := JY_1.f0; have JYq1f1 := JY_1.f1; have JYq1f2 := JY_1.f2; have JYq1f3 := JY_1.f3; have JYq1f4 := JY_1.f4; have JYq1f5 := JY_1.f5; have JYq1f6 := JY_1.f6; have JYq1f7 := JY_1.f7; have JYq1f8 := JY_1.f8; have JYq1f9 := JY_1.f9; have JR_1 := JR.below bq1; have JRq10 := JR_1.c0; have JRq11 := JR_1.c1; have JRq12 := JR_1.c2; have JRq13 := JR_1.c3; have JRq14 := JR_1.c4; have JRq15 := JR_1.c5; have JRq16 := JR_1.c6; have JRq17 := JR_1.c7; have JRq18 := JR_1.c8; have JRq19 := JR_1.c9; have JRq1l := JR_1.lt; have JRq1f0 := JR_1.f0; have JRq1f1 := JR_1.f1; have JRq1f2 := JR_1.f2; have JRq1f3 := JR_1.f3; have JRq1f4 := JR_1.f4; have JRq1f5 := JR_1.f5; have JRq1f6 := JR_1.f6; have JRq1f7 := JR_1.f7; have JRq1f8 := JR_1.f8; have JRq1f9 := JR_1.f9; have B_1 := below_next B bq1; have lq1 := B_1.size) | (go_simp; go_at_call 80; (with_reducible refine (SB.out _).mono ?_); rintro e wq2 ⟨rfl, bq2⟩; have JX_2 := JX_1.below bq2; have JXq20 := JX_2.c0; have JXq21 := JX_2.c1; have JXq22 := JX_2.c2; have JXq23 := JX_2.c3; have JXq24 := JX_2.c4; have JXq25 := JX_2.c5; have JXq26 := JX_2.c6; have JXq27 := JX_2.c7; have JXq28 := JX_2.c8; have JXq29 := JX_2.c9; have JXq2l := JX_2.lt; have JXq2f0 := JX_2.f0; have JXq2f1 := JX_2.f1; have JXq2f2 := JX_2.f2; have JXq2f3 := JX_2.f3; have JXq2f4 := JX_2.f4; have JXq2f5 := JX_2.f5; have JXq2f6 := JX_2.f6; have JXq2f7 := JX_2.f7; have JXq2f8 := JX_2.f8; have JXq2f9 := JX_2.f9; have JY_2 := JY_1.below bq2; have JYq20 := JY_2.c0; have JYq21 := JY_2.c1; have JYq22 := JY_2.c2; have JYq23 := JY_2.c3; have JYq24 := JY_2.c4; have JYq25 := JY_2.c5; have JYq26 := JY_2.c6; have JYq27 := JY_2.c7; have JYq28 := JY_2.c8; have JYq29 := JY_2.c9; have JYq2l := JY_2.lt; have JYq2f0 := JY_2.f0; have JYq2f1 := JY_2.f1; have JYq2f2 := JY_2.f2; have JYq2f3 := JY_2.f3; have JYq2f4 := JY_2.f4; have JYq2f5 := JY_2.f5; have JYq2f6 := JY_2.f6; have JYq2f7 := JY_2.f7; have JYq2f8 := JY_2.f8; have JYq2f9 := JY_2.f9; have JR_2 := JR_1.below bq2; have JRq20 := JR_2.c0; have JRq21 := JR_2.c1; have JRq22 := JR_2.c2; have JRq23 := JR_2.c3; have JRq24 := JR_2.c4; have JRq25 := JR_2.c5; have JRq26 := JR_2.c6; have JRq27 := JR_2.c7; have JRq28 := JR_2.c8; have JRq29 := JR_2.c9; have JRq2l := JR_2.lt; have JRq2f0 := JR_2.f0; have JRq2f1 := JR_2.f1; have JRq2f2 := JR_2.f2; have JRq2f3 := JR_2.f3; have JRq2f4 := JR_2.f4; have JRq2f5 := JR_2.f5; have JRq2f6 := JR_2.f6; have JRq2f7 := JR_2.f7; have JRq2f8 := JR_2.f8; have JRq2f9 := JR_2.f9; have B_2 := below_next B_1 bq2; have lq2 := B_2.size))) | fail
      all_goals exact ⟨⟨(JX_2.otherK (c := w.heap.size + 1 + 1) (by omega) (⟨M, r0⟩)), (JY_2.otherK (c := w.heap.size + 1 + 1) (by omega) (⟨M, r0⟩)), (JR_2.put (⟨M, r0⟩)), (putK_below (⟨M, r0⟩) B_2 (by omega : w.heap.size ≤ w.heap.size + 1 + 1))⟩, rfl⟩
    clear JXd0 JXd1 JXd2 JXd3 JXd4 JXd5 JXd6 JXd7 JXd8 JXd9 JXdl JXdf0 JXdf1 JXdf2 JXdf3 JXdf4 JXdf5 JXdf6 JXdf7 JXdf8 JXdf9 JYd0 JYd1 JYd2 JYd3 JYd4 JYd5 JYd6 JYd7 JYd8 JYd9 JYdl JYdf0 JYdf1 JYdf2 JYdf3 JYdf4 JYdf5 JYdf6 JYdf7 JYdf8 JYdf9 JRd0 JRd1 JRd2 JRd3 JRd4 JRd5 JRd6 JRd7 JRd8 JRd9 JRdl JRdf0 JRdf1 JRdf2 JRdf3 JRdf4 JRdf5 JRdf6 JRdf7 JRdf8 JRdf9 ld hu
    clear JX JY JR B
    intro w3 ⟨JX, JY, JR, B⟩
    have JX0 := JX.c0
    have JX1 := JX.c1
    have JX2 := JX.c2
    have JX3 := JX.c3
    have JX4 := JX.c4
    have JX5 := JX.c5
    have JX6 := JX.c6
    have JX7 := JX.c7
    have JX8 := JX.c8
    have JX9 := JX.c9
    have JXl := JX.lt
    have JY0 := JY.c0
    have JY1 := JY.c1
    have JY2 := JY.c2
    have JY3 := JY.c3
    have JY4 := JY.c4
    have JY5 := JY.c5
    have JY6 := JY.c6
    have JY7 := JY.c7
    have JY8 := JY.c8
    have JY9 := JY.c9
    have JYl := JY.lt
    have JR0 := JR.c0
    have JR1 := JR.c1
    have JR2 := JR.c2
    have JR3 := JR.c3
    have JR4 := JR.c4
    have JR5 := JR.c5
    have JR6 := JR.c6
    have JR7 := JR.c7
    have JR8 := JR.c8
    have JR9 := JR.c9
    have JRl := JR.lt
    have JRf0 := JR.f0
    have JRf1 := JR.f1
    have JRf2 := JR.f2
    have JRf3 := JR.f3
    have JRf4 := JR.f4
    have JRf5 := JR.f5
    have JRf6 := JR.f6
    have JRf7 := JR.f7
    have JRf8 := JR.f8
    have JRf9 := JR.f9
    have lb := B.size
    go_wp2
    exact bodyPost_ret (v := kV ⟨M, r0⟩) (by simp [results, Try.results33, go_sem, JX0, JX1, JX2, JX3, JX4, JX5, JX6, JX7, JX8, JX9, JXl, JY0, JY1, JY2, JY3, JY4, JY5, JY6, JY7, JY8, JY9, JYl, JR0, JR1, JR2, JR3, JR4, JR5, JR6, JR7, JR8, JR9, JRl]; try first | rfl | exact ⟨rfl, rfl⟩) rfl ⟨rfl, B⟩
  · rw [if_neg k0] at hR
    have e0 : (kk == 0) = false := by simpa using k0
    have e1 : (kk != 0) = true := by simpa using k0
    clear SA SB hAnd k0
    subst hR
    have BL := bld_k_r
    go_enter Try.func33, Try.ntmps33
    go_wp2_with fail
    refine (RJ.out _).mono ?_
    rintro e w1 ⟨rfl, z⟩
    have JX : KC w1 (w.heap.size) (⟨h1, ⟨k1, l1, m1, s1, lo1, hi1⟩⟩) := (((KC.new rfl).alloc _).alloc _).below z
    have JY : KC w1 (w.heap.size + 1) (⟨h2, ⟨k2, l2, m2, s2, lo2, hi2⟩⟩) := ((KC.new (by simp)).alloc _).below z
    have JR : KC w1 (w.heap.size + 1 + 1) (k0) := (KC.new (by simp)).below z
    have B := below_next (bel_alloc (bel_alloc (bel_alloc (Below.refl w.heap.size w)))) z
    clear z
    have JX0 := JX.c0
    have JX1 := JX.c1
    have JX2 := JX.c2
    have JX3 := JX.c3
    have JX4 := JX.c4
    have JX5 := JX.c5
    have JX6 := JX.c6
    have JX7 := JX.c7
    have JX8 := JX.c8
    have JX9 := JX.c9
    have JXl := JX.lt
    have JY0 := JY.c0
    have JY1 := JY.c1
    have JY2 := JY.c2
    have JY3 := JY.c3
    have JY4 := JY.c4
    have JY5 := JY.c5
    have JY6 := JY.c6
    have JY7 := JY.c7
    have JY8 := JY.c8
    have JY9 := JY.c9
    have JYl := JY.lt
    have JR0 := JR.c0
    have JR1 := JR.c1
    have JR2 := JR.c2
    have JR3 := JR.c3
    have JR4 := JR.c4
    have JR5 := JR.c5
    have JR6 := JR.c6
    have JR7 := JR.c7
    have JR8 := JR.c8
    have JR9 := JR.c9
    have JRl := JR.lt
    have JRf0 := JR.f0
    have JRf1 := JR.f1
    have JRf2 := JR.f2
    have JRf3 := JR.f3
    have JRf4 := JR.f4
    have JRf5 := JR.f5
    have JRf6 := JR.f6
    have JRf7 := JR.f7
    have JRf8 := JR.f8
    have JRf9 := JR.f9
    have lb := B.size
    go_wp2
    exact bodyPost_ret (v := kV ⟨255#8, ⟨kk, l, m, s, lo, hi⟩⟩) (by simp [results, Try.results33, go_sem, JX0, JX1, JX2, JX3, JX4, JX5, JX6, JX7, JX8, JX9, JXl, JY0, JY1, JY2, JY3, JY4, JY5, JY6, JY7, JY8, JY9, JYl, JR0, JR1, JR2, JR3, JR4, JR5, JR6, JR7, JR8, JR9, JRl]; try first | rfl | exact ⟨rfl, rfl⟩) rfl ⟨rfl, bel_alloc (putK_below ⟨255#8, ⟨kk, l, m, s, lo, hi⟩⟩ B (by omega))⟩
end Go.Proofs.Ytodmikjpmcabiaa

namespace Go.Proofs.Ytodmikjpmcabiaa
set_option linter.unusedSimpArgs false
set_option linter.unusedVariables false
set_option maxRecDepth 100000
set_option maxRecDepth 100000
open Go.ChangeShapes Go.WideShapes Go.ChangeAt Go.RowKit Me

set_option maxHeartbeats 8000000 in
theorem kIn_any (a b : Sk) (ha : ROk a.r) (hb' : ROk b.r) (w : World) : Calls Try.prog 90 #[kV a, kV b] w fun e w' => e = .returned (.bool (kIn a b)) ∧ Below w.heap.size w w' := by
  have SU := fun W => sure_any a W
  have AN := fun W => anyNum_any W
  have ER := fun W => eq_r b.r anyR hb' (by unfold ROk anyR; decide) W
  have RI := fun W => regIn_any a.r b.r ha hb' W
  have hq := vb_sub b.h (sure a)
  have h255 : (vb a.h == 255) = (a.h == 255#8) := vb_eqi a.h 255#8
  unfold kIn
  clear ha hb'
  by_cases b0 : b.r.k = 0
  · rw [if_pos b0]
    clear AN ER RI h255
    generalize sub8 b.h (sure a) = q at *
    generalize sure a = S at *
    have e0 : (b.r.k == 0) = true := by simpa using b0
    clear b0
    unfold kV at SU ⊢
    replace SU := hid SU
    generalize hv : vb S = VS at *
    go_enter Try.func90, Try.ntmps90
    go_wp2_with fail
    have JX : KC ((w.alloc (.cells #[.int .u8 (vb a.h), .int .u8 a.r.k, .bool a.r.l, .int .i64 a.r.m, .int .u64 (ub a.r.s.1.1), .int .u64 (ub a.r.s.1.2), .int .u64 (ub a.r.s.2.1), .int .u64 (ub a.r.s.2.2), .int .i64 a.r.lo, .int .i64 a.r.hi] 33)).alloc (.cells #[.int .u8 (vb b.h), .int .u8 b.r.k, .bool b.r.l, .int .i64 b.r.m, .int .u64 (ub b.r.s.1.1), .int .u64 (ub b.r.s.1.2), .int .u64 (ub b.r.s.2.1), .int .u64 (ub b.r.s.2.2), .int .i64 b.r.lo, .int .i64 b.r.hi] 33)) w.heap.size a := (KC.new (x := a) rfl).alloc _
    have JY : KC ((w.alloc (.cells #[.int .u8 (vb a.h), .int .u8 a.r.k, .bool a.r.l, .int .i64 a.r.m, .int .u64 (ub a.r.s.1.1), .int .u64 (ub a.r.s.1.2), .int .u64 (ub a.r.s.2.1), .int .u64 (ub a.r.s.2.2), .int .i64 a.r.lo, .int .i64 a.r.hi] 33)).alloc (.cells #[.int .u8 (vb b.h), .int .u8 b.r.k, .bool b.r.l, .int .i64 b.r.m, .int .u64 (ub b.r.s.1.1), .int .u64 (ub b.r.s.1.2), .int .u64 (ub b.r.s.2.1), .int .u64 (ub b.r.s.2.2), .int .i64 b.r.lo, .int .i64 b.r.hi] 33)) (w.heap.size + 1) b := KC.new (x := b) (by simp)
    have B : Below w.heap.size w ((w.alloc (.cells #[.int .u8 (vb a.h), .int .u8 a.r.k, .bool a.r.l, .int .i64 a.r.m, .int .u64 (ub a.r.s.1.1), .int .u64 (ub a.r.s.1.2), .int .u64 (ub a.r.s.2.1), .int .u64 (ub a.r.s.2.2), .int .i64 a.r.lo, .int .i64 a.r.hi] 33)).alloc (.cells #[.int .u8 (vb b.h), .int .u8 b.r.k, .bool b.r.l, .int .i64 b.r.m, .int .u64 (ub b.r.s.1.1), .int .u64 (ub b.r.s.1.2), .int .u64 (ub b.r.s.2.1), .int .u64 (ub b.r.s.2.2), .int .i64 b.r.lo, .int .i64 b.r.hi] 33)) := bel_alloc (bel_alloc (Below.refl _ _))
    generalize (w.alloc (.cells #[.int .u8 (vb a.h), .int .u8 a.r.k, .bool a.r.l, .int .i64 a.r.m, .int .u64 (ub a.r.s.1.1), .int .u64 (ub a.r.s.1.2), .int .u64 (ub a.r.s.2.1), .int .u64 (ub a.r.s.2.2), .int .i64 a.r.lo, .int .i64 a.r.hi] 33)).alloc (.cells #[.int .u8 (vb b.h), .int .u8 b.r.k, .bool b.r.l, .int .i64 b.r.m, .int .u64 (ub b.r.s.1.1), .int .u64 (ub b.r.s.1.2), .int .u64 (ub b.r.s.2.1), .int .u64 (ub b.r.s.2.2), .int .i64 b.r.lo, .int .i64 b.r.hi] 33) = w0 at *
    have q0 := JY.c0
    have q1 := JX.c0
    have q2 := JX.c1
    have q3 := JX.c2
    have q4 := JX.c3
    have q5 := JX.c4
    have q6 := JX.c5
    have q7 := JX.c6
    have q8 := JX.c7
    have q9 := JX.c8
    have q10 := JX.c9
    try dsimp only at q0 q1 q2 q3 q4 q5 q6 q7 q8 q9 q10
    go_region_held3 (fun w' => w'.cell? ⟨w.heap.size + 1, 0, none⟩ = some (.int .u8 (vb b.h)) ∧ w'.cell? ⟨w.heap.size, 0, none⟩ = some (.int .u8 (vb a.h)) ∧ w'.cell? ⟨w.heap.size, 1, none⟩ = some (.int .u8 a.r.k) ∧ w'.cell? ⟨w.heap.size, 2, none⟩ = some (.bool a.r.l) ∧ w'.cell? ⟨w.heap.size, 3, none⟩ = some (.int .i64 a.r.m) ∧ w'.cell? ⟨w.heap.size, 4, none⟩ = some (.int .u64 (ub a.r.s.1.1)) ∧ w'.cell? ⟨w.heap.size, 5, none⟩ = some (.int .u64 (ub a.r.s.1.2)) ∧ w'.cell? ⟨w.heap.size, 6, none⟩ = some (.int .u64 (ub a.r.s.2.1)) ∧ w'.cell? ⟨w.heap.size, 7, none⟩ = some (.int .u64 (ub a.r.s.2.2)) ∧ w'.cell? ⟨w.heap.size, 8, none⟩ = some (.int .i64 a.r.lo) ∧ w'.cell? ⟨w.heap.size, 9, none⟩ = some (.int .i64 a.r.hi) ∧ Below w0.heap.size w0 w')
      (first | (go_split_ands; with_reducible exact ⟨by with_reducible assumption, by with_reducible assumption, by with_reducible assumption, by with_reducible assumption, by with_reducible assumption, by with_reducible assumption, by with_reducible assumption, by with_reducible assumption, by with_reducible assumption, by with_reducible assumption, by with_reducible assumption, by with_reducible assumption⟩) | (with_reducible exact ⟨cn bq (by with_reducible assumption), cn bq (by with_reducible assumption), cn bq (by with_reducible assumption), cn bq (by with_reducible assumption), cn bq (by with_reducible assumption), cn bq (by with_reducible assumption), cn bq (by with_reducible assumption), cn bq (by with_reducible assumption), cn bq (by with_reducible assumption), cn bq (by with_reducible assumption), cn bq (by with_reducible assumption), below_next (by with_reducible assumption) bq⟩) | (with_reducible exact ⟨cn (below_dr w0) q0, cn (below_dr w0) q1, cn (below_dr w0) q2, cn (below_dr w0) q3, cn (below_dr w0) q4, cn (below_dr w0) q5, cn (below_dr w0) q6, cn (below_dr w0) q7, cn (below_dr w0) q8, cn (below_dr w0) q9, cn (below_dr w0) q10, below_dr w0⟩))
      (first | (go_at_call 80; go_split_ands; (with_reducible refine (SU.out _).mono ?_); rintro e wq ⟨rfl, bq⟩))
    go_split_ands
    have zq : Below w0.heap.size w0 wq := by with_reducible assumption
    replace B := below_next B zq
    go_wp2
    go_ret
    exact ⟨rfl, B⟩
  rw [if_neg b0]
  have e0 : (b.r.k == 0) = false := by simpa using b0
  clear SU hq b0
  by_cases a0 : a.r.k = 0
  · rw [if_pos a0]
    clear RI
    have f0 : (a.r.k == 0) = true := by simpa using a0
    generalize rB b.r anyR = q at *
    generalize (a.h == 255#8) = q5 at *
    generalize anyR = AR at *
    unfold rV at AN ER
    unfold kV
    replace AN := hid AN
    clear a0
    cases q5
    · rw [Bool.false_and]
      go_enter Try.func90, Try.ntmps90
      go_wp2_with fail
      have JX : KC ((w.alloc (.cells #[.int .u8 (vb a.h), .int .u8 a.r.k, .bool a.r.l, .int .i64 a.r.m, .int .u64 (ub a.r.s.1.1), .int .u64 (ub a.r.s.1.2), .int .u64 (ub a.r.s.2.1), .int .u64 (ub a.r.s.2.2), .int .i64 a.r.lo, .int .i64 a.r.hi] 33)).alloc (.cells #[.int .u8 (vb b.h), .int .u8 b.r.k, .bool b.r.l, .int .i64 b.r.m, .int .u64 (ub b.r.s.1.1), .int .u64 (ub b.r.s.1.2), .int .u64 (ub b.r.s.2.1), .int .u64 (ub b.r.s.2.2), .int .i64 b.r.lo, .int .i64 b.r.hi] 33)) w.heap.size a := (KC.new (x := a) rfl).alloc _
      have JY : KC ((w.alloc (.cells #[.int .u8 (vb a.h), .int .u8 a.r.k, .bool a.r.l, .int .i64 a.r.m, .int .u64 (ub a.r.s.1.1), .int .u64 (ub a.r.s.1.2), .int .u64 (ub a.r.s.2.1), .int .u64 (ub a.r.s.2.2), .int .i64 a.r.lo, .int .i64 a.r.hi] 33)).alloc (.cells #[.int .u8 (vb b.h), .int .u8 b.r.k, .bool b.r.l, .int .i64 b.r.m, .int .u64 (ub b.r.s.1.1), .int .u64 (ub b.r.s.1.2), .int .u64 (ub b.r.s.2.1), .int .u64 (ub b.r.s.2.2), .int .i64 b.r.lo, .int .i64 b.r.hi] 33)) (w.heap.size + 1) b := KC.new (x := b) (by simp)
      have B : Below w.heap.size w ((w.alloc (.cells #[.int .u8 (vb a.h), .int .u8 a.r.k, .bool a.r.l, .int .i64 a.r.m, .int .u64 (ub a.r.s.1.1), .int .u64 (ub a.r.s.1.2), .int .u64 (ub a.r.s.2.1), .int .u64 (ub a.r.s.2.2), .int .i64 a.r.lo, .int .i64 a.r.hi] 33)).alloc (.cells #[.int .u8 (vb b.h), .int .u8 b.r.k, .bool b.r.l, .int .i64 b.r.m, .int .u64 (ub b.r.s.1.1), .int .u64 (ub b.r.s.1.2), .int .u64 (ub b.r.s.2.1), .int .u64 (ub b.r.s.2.2), .int .i64 b.r.lo, .int .i64 b.r.hi] 33)) := bel_alloc (bel_alloc (Below.refl _ _))
      generalize (w.alloc (.cells #[.int .u8 (vb a.h), .int .u8 a.r.k, .bool a.r.l, .int .i64 a.r.m, .int .u64 (ub a.r.s.1.1), .int .u64 (ub a.r.s.1.2), .int .u64 (ub a.r.s.2.1), .int .u64 (ub a.r.s.2.2), .int .i64 a.r.lo, .int .i64 a.r.hi] 33)).alloc (.cells #[.int .u8 (vb b.h), .int .u8 b.r.k, .bool b.r.l, .int .i64 b.r.m, .int .u64 (ub b.r.s.1.1), .int .u64 (ub b.r.s.1.2), .int .u64 (ub b.r.s.2.1), .int .u64 (ub b.r.s.2.2), .int .i64 b.r.lo, .int .i64 b.r.hi] 33) = w0 at *
      have q0 := JX.c0
      have hu : undef = Value.tuple #[] := rfl
      first | (go_region_law (fail)) | fail
      all_goals
        replace B := below_next B (below_dr _)
        go_wp2
        go_ret
        exact ⟨rfl, B⟩
    · rw [Bool.true_and]
      go_enter Try.func90, Try.ntmps90
      go_wp2_with fail
      have JX : KC ((w.alloc (.cells #[.int .u8 (vb a.h), .int .u8 a.r.k, .bool a.r.l, .int .i64 a.r.m, .int .u64 (ub a.r.s.1.1), .int .u64 (ub a.r.s.1.2), .int .u64 (ub a.r.s.2.1), .int .u64 (ub a.r.s.2.2), .int .i64 a.r.lo, .int .i64 a.r.hi] 33)).alloc (.cells #[.int .u8 (vb b.h), .int .u8 b.r.k, .bool b.r.l, .int .i64 b.r.m, .int .u64 (ub b.r.s.1.1), .int .u64 (ub b.r.s.1.2), .int .u64 (ub b.r.s.2.1), .int .u64 (ub b.r.s.2.2), .int .i64 b.r.lo, .int .i64 b.r.hi] 33)) w.heap.size a := (KC.new (x := a) rfl).alloc _
      have JY : KC ((w.alloc (.cells #[.int .u8 (vb a.h), .int .u8 a.r.k, .bool a.r.l, .int .i64 a.r.m, .int .u64 (ub a.r.s.1.1), .int .u64 (ub a.r.s.1.2), .int .u64 (ub a.r.s.2.1), .int .u64 (ub a.r.s.2.2), .int .i64 a.r.lo, .int .i64 a.r.hi] 33)).alloc (.cells #[.int .u8 (vb b.h), .int .u8 b.r.k, .bool b.r.l, .int .i64 b.r.m, .int .u64 (ub b.r.s.1.1), .int .u64 (ub b.r.s.1.2), .int .u64 (ub b.r.s.2.1), .int .u64 (ub b.r.s.2.2), .int .i64 b.r.lo, .int .i64 b.r.hi] 33)) (w.heap.size + 1) b := KC.new (x := b) (by simp)
      have B : Below w.heap.size w ((w.alloc (.cells #[.int .u8 (vb a.h), .int .u8 a.r.k, .bool a.r.l, .int .i64 a.r.m, .int .u64 (ub a.r.s.1.1), .int .u64 (ub a.r.s.1.2), .int .u64 (ub a.r.s.2.1), .int .u64 (ub a.r.s.2.2), .int .i64 a.r.lo, .int .i64 a.r.hi] 33)).alloc (.cells #[.int .u8 (vb b.h), .int .u8 b.r.k, .bool b.r.l, .int .i64 b.r.m, .int .u64 (ub b.r.s.1.1), .int .u64 (ub b.r.s.1.2), .int .u64 (ub b.r.s.2.1), .int .u64 (ub b.r.s.2.2), .int .i64 b.r.lo, .int .i64 b.r.hi] 33)) := bel_alloc (bel_alloc (Below.refl _ _))
      generalize (w.alloc (.cells #[.int .u8 (vb a.h), .int .u8 a.r.k, .bool a.r.l, .int .i64 a.r.m, .int .u64 (ub a.r.s.1.1), .int .u64 (ub a.r.s.1.2), .int .u64 (ub a.r.s.2.1), .int .u64 (ub a.r.s.2.2), .int .i64 a.r.lo, .int .i64 a.r.hi] 33)).alloc (.cells #[.int .u8 (vb b.h), .int .u8 b.r.k, .bool b.r.l, .int .i64 b.r.m, .int .u64 (ub b.r.s.1.1), .int .u64 (ub b.r.s.1.2), .int .u64 (ub b.r.s.2.1), .int .u64 (ub b.r.s.2.2), .int .i64 b.r.lo, .int .i64 b.r.hi] 33) = w0 at *
      have q0 := JX.c0
      have q1 := JY.c1
      have q2 := JY.c2
      have q3 := JY.c3
      have q4 := JY.c4
      have q5 := JY.c5
      have q6 := JY.c6
      have q7 := JY.c7
      have q8 := JY.c8
      have q9 := JY.c9
      try dsimp only at q0 q1 q2 q3 q4 q5 q6 q7 q8 q9
      go_region_held3 (fun w' => w'.cell? ⟨w.heap.size, 0, none⟩ = some (.int .u8 (vb a.h)) ∧ w'.cell? ⟨w.heap.size + 1, 1, none⟩ = some (.int .u8 b.r.k) ∧ w'.cell? ⟨w.heap.size + 1, 2, none⟩ = some (.bool b.r.l) ∧ w'.cell? ⟨w.heap.size + 1, 3, none⟩ = some (.int .i64 b.r.m) ∧ w'.cell? ⟨w.heap.size + 1, 4, none⟩ = some (.int .u64 (ub b.r.s.1.1)) ∧ w'.cell? ⟨w.heap.size + 1, 5, none⟩ = some (.int .u64 (ub b.r.s.1.2)) ∧ w'.cell? ⟨w.heap.size + 1, 6, none⟩ = some (.int .u64 (ub b.r.s.2.1)) ∧ w'.cell? ⟨w.heap.size + 1, 7, none⟩ = some (.int .u64 (ub b.r.s.2.2)) ∧ w'.cell? ⟨w.heap.size + 1, 8, none⟩ = some (.int .i64 b.r.lo) ∧ w'.cell? ⟨w.heap.size + 1, 9, none⟩ = some (.int .i64 b.r.hi) ∧ Below w0.heap.size w0 w')
        (first | (go_split_ands; with_reducible exact ⟨by with_reducible assumption, by with_reducible assumption, by with_reducible assumption, by with_reducible assumption, by with_reducible assumption, by with_reducible assumption, by with_reducible assumption, by with_reducible assumption, by with_reducible assumption, by with_reducible assumption, by with_reducible assumption⟩) | (with_reducible exact ⟨cn bq (by with_reducible assumption), cn bq (by with_reducible assumption), cn bq (by with_reducible assumption), cn bq (by with_reducible assumption), cn bq (by with_reducible assumption), cn bq (by with_reducible assumption), cn bq (by with_reducible assumption), cn bq (by with_reducible assumption), cn bq (by with_reducible assumption), cn bq (by with_reducible assumption), below_next (by with_reducible assumption) bq⟩) | (with_reducible exact ⟨cn (below_dr w0) q0, cn (below_dr w0) q1, cn (below_dr w0) q2, cn (below_dr w0) q3, cn (below_dr w0) q4, cn (below_dr w0) q5, cn (below_dr w0) q6, cn (below_dr w0) q7, cn (below_dr w0) q8, cn (below_dr w0) q9, below_dr w0⟩))
        (first | (go_at_call 125; go_split_ands; (with_reducible refine (AN.out _).mono ?_); rintro e wq ⟨rfl, bq⟩))
      go_split_ands
      have zq : Below w0.heap.size w0 wq := by with_reducible assumption
      replace B := below_next B zq
      go_wp2
      go_ret
      exact ⟨rfl, B⟩
  rw [if_neg a0]
  have f0 : (a.r.k == 0) = false := by simpa using a0
  clear AN ER h255
  generalize rIn a.r b.r = q at *
  unfold rV at RI
  unfold kV
  replace RI := hid RI
  go_enter Try.func90, Try.ntmps90
  go_wp2_with fail
  refine (RI.out _).mono ?_
  rintro e w1 ⟨rfl, z⟩
  have B := below_next (bel_alloc (bel_alloc (Below.refl w.heap.size w))) z
  clear z
  go_wp2
  go_ret
  exact ⟨rfl, B⟩
end Go.Proofs.Ytodmikjpmcabiaa
