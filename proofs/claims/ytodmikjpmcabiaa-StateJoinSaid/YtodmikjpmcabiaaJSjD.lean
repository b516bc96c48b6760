/-
  Contract of the document's JoinSlot (layer 12).
-/
import Derived.Test.YtodmikjpmcabiaaJSjC
import Derived.Test.YtodmikjpmcabiaaJSiC
import Derived.Test.YtodmikjpmcabiaaJStG
import Derived.BigRegion
namespace Go.Proofs.Ytodmikjpmcabiaa
set_option linter.unusedSimpArgs false
set_option linter.unusedVariables false
set_option maxRecDepth 100000
set_option maxRecDepth 100000
open Go.ChangeShapes Go.WideShapes Go.ChangeAt Go.RowKit Me

theorem KC.otherCell {w : World} {b c o : Nat} {x : Sk} (h : KC w b x) (hbc : b ≠ c) (v : Value) : KC (w.setCell ⟨c, o, none⟩ v) b x := by
  have e : (w.setCell ⟨c, o, none⟩ v).heap[b]? = w.heap[b]? := Below.heap_setCell _ _ _ _ hbc
  have g : ∀ k, (w.setCell ⟨c, o, none⟩ v).cell? ⟨b, k, none⟩ = w.cell? ⟨b, k, none⟩ := fun k => World.cell?_of_block (w := w) (a := ⟨b, k, none⟩) e
  have f : ∀ k, (w.setCell ⟨c, o, none⟩ v).frozen? ⟨b, k, none⟩ = w.frozen? ⟨b, k, none⟩ := fun k => World.frozen?_of_block (w := w) (a := ⟨b, k, none⟩) e
  exact ⟨by simp; exact h.lt, (g 0).trans h.c0, (g 1).trans h.c1, (g 2).trans h.c2, (g 3).trans h.c3, (g 4).trans h.c4, (g 5).trans h.c5, (g 6).trans h.c6, (g 7).trans h.c7, (g 8).trans h.c8, (g 9).trans h.c9, (f 0).trans h.f0, (f 1).trans h.f1, (f 2).trans h.f2, (f 3).trans h.f3, (f 4).trans h.f4, (f 5).trans h.f5, (f 6).trans h.f6, (f 7).trans h.f7, (f 8).trans h.f8, (f 9).trans h.f9⟩
theorem KC.head {w : World} {b : Nat} {x : Sk} (h : KC w b x) (y : B8) : KC (w.setCell ⟨b, 0, none⟩ (.int .u8 (vb y))) b ⟨y, x.r⟩ := by
  have g : ∀ k, k ≠ 0 → (w.setCell ⟨b, 0, none⟩ (.int .u8 (vb y))).cell? ⟨b, k, none⟩ = w.cell? ⟨b, k, none⟩ := fun k hk => World.cell?_setCell_other _ _ _ _ (by simp [hk])
  exact ⟨by simp; exact h.lt, World.cell?_setCell_same _ _ _ h.c0, (g 1 (by decide)).trans h.c1, (g 2 (by decide)).trans h.c2, (g 3 (by decide)).trans h.c3, (g 4 (by decide)).trans h.c4, (g 5 (by decide)).trans h.c5, (g 6 (by decide)).trans h.c6, (g 7 (by decide)).trans h.c7, (g 8 (by decide)).trans h.c8, (g 9 (by decide)).trans h.c9, (World.frozen?_setCell _ _ _ _).trans h.f0, (World.frozen?_setCell _ _ _ _).trans h.f1, (World.frozen?_setCell _ _ _ _).trans h.f2, (World.frozen?_setCell _ _ _ _).trans h.f3, (World.frozen?_setCell _ _ _ _).trans h.f4, (World.frozen?_setCell _ _ _ _).trans h.f5, (World.frozen?_setCell _ _ _ _).trans h.f6, (World.frozen?_setCell _ _ _ _).trans h.f7, (World.frozen?_setCell _ _ _ _).trans h.f8, (World.frozen?_setCell _ _ _ _).trans h.f9⟩
theorem rJoin_none {a b : Rg} (ha : Rm a) (hb : Rm b) (h : a.k = 0 ∨ b.k = 0) : (rJoin a b).k = 0 := by
  by_cases hk : a.k = b.k
  · have h1 := Rm_none ha (by omega)
    have h2 := Rm_none hb (by omega)
    rw [h1, h2, show rJoin r0 r0 = r0 by rw [rJoin_same ⟨rfl, rfl⟩]; simp [r0, joS_zero]]
    rfl
  · rcases h with h | h
    · have h1 := Rm_none ha h
      rw [rJoin_no (fun e => hk e.1) (.inl (by rw [h1]; exact third_false .none (by decide) _))]
      rfl
    · have h1 := Rm_none hb h
      rw [rJoin_no (fun e => hk e.1) (.inr (by rw [h1]; exact third_false .none (by decide) _))]
      rfl
def upto (x : B8) (k : Nat) : B8 := x &&& BitVec.ofNat 8 (2 ^ k - 1)
theorem upto_all : ∀ x : Fin 256, ∀ j : Fin 8, (if (BitVec.ofNat 8 x.val).getLsbD j.val then vb (upto (BitVec.ofNat 8 x.val) j.val) + 2 ^ j.val else vb (upto (BitVec.ofNat 8 x.val) j.val)) = vb (upto (BitVec.ofNat 8 x.val) (j.val + 1)) := by decide +kernel
theorem upto_yes {x : B8} {j : Nat} (hj : j < 8) (h : x.getLsbD j = true) : vb (upto x j) + 2 ^ j = vb (upto x (j + 1)) := by
  have := upto_all ⟨x.toNat, x.isLt⟩ ⟨j, hj⟩
  dsimp only at this
  rw [show BitVec.ofNat 8 x.toNat = x by simp, if_pos h] at this
  exact this
theorem upto_no {x : B8} {j : Nat} (hj : j < 8) (h : x.getLsbD j = false) : upto x j = upto x (j + 1) := by
  have := upto_all ⟨x.toNat, x.isLt⟩ ⟨j, hj⟩
  dsimp only at this
  rw [show BitVec.ofNat 8 x.toNat = x by simp, if_neg (by rw [h]; decide)] at this
  exact vb_inj.1 this
theorem upto_zero (x : B8) : upto x 0 = 0#8 := by unfold upto; simp
theorem upto_full (x : B8) : upto x 8 = x := by
  unfold upto
  rw [show BitVec.ofNat 8 (2 ^ 8 - 1) = BitVec.allOnes 8 from rfl, BitVec.and_allOnes]
theorem bld_k_0 (W : World) : (Instr.build 33 #[]).run Try.prog W = .ok (.agg #[.int .u8 0, .int .u8 0, .bool false, .int .i64 0, .int .u64 0, .int .u64 0, .int .u64 0, .int .u64 0, .int .i64 0, .int .i64 0]) W := by kernel_rfl
structure JsI (w : World) (a b : Sk) (g : Nat) (h : B8) (wr : World) : Prop where
  jx : KC wr w.heap.size a
  jy : KC wr (w.heap.size + 1) b
  jr : KC wr (w.heap.size + 1 + 1) k0
  jo : KC wr g ⟨h, r0⟩
  gt : w.heap.size + 1 + 1 < g
  bel : Below w.heap.size w wr
theorem JsI.next {w wr w' : World} {a b : Sk} {g : Nat} {h : B8} (i : JsI w a b g h wr) (z : Below wr.heap.size wr w') : JsI w a b g h w' := ⟨i.jx.below z, i.jy.below z, i.jr.below z, i.jo.below z, i.gt, below_next i.bel z⟩
theorem JsI.head {w wr : World} {a b : Sk} {g : Nat} {h : B8} (i : JsI w a b g h wr) (y : B8) : JsI w a b g y (wr.setCell ⟨g, 0, none⟩ (.int .u8 (vb y))) :=
  have q := i.gt
  ⟨i.jx.otherCell (by omega) _, i.jy.otherCell (by omega) _, i.jr.otherCell (by omega) _, i.jo.head y, i.gt, i.bel.setCell (p := ⟨g, 0, none⟩) (by show w.heap.size ≤ g; omega) _⟩
theorem JsI.new {w w3 : World} {a b : Sk} (o : Obj) (JX : KC w3 w.heap.size a) (JY : KC w3 (w.heap.size + 1) b) (JR : KC w3 (w.heap.size + 1 + 1) k0) (B : Below w.heap.size w w3) (ho : o = .cells #[.int .u8 0, .int .u8 0, .bool false, .int .i64 0, .int .u64 0, .int .u64 0, .int .u64 0, .int .u64 0, .int .i64 0, .int .i64 0] 33) : JsI w a b w3.heap.size 0#8 (w3.alloc o) := by
  subst ho
  have q := JR.lt
  exact ⟨JX.alloc _, JY.alloc _, JR.alloc _, KC.new (x := k0) rfl, q, bel_alloc B⟩
set_option maxHeartbeats 16000000 in
theorem js_reg (a b : Sk) (ha : Rm a.r) (hb : Rm b.r) (e1 : a.r.k ≠ 0) (e2 : b.r.k ≠ 0) (e3 : (rJoin a.r b.r).k ≠ 0) (w : World) : Calls Try.prog 36 #[kV a, kV b] w fun e w' => e = .returned (kV ⟨255#8, rJoin a.r b.r⟩) ∧ Below w.heap.size w w' := by
  have RJ := fun W => rJoinReg_any a.r b.r ha hb W
  generalize rJoin a.r b.r = J at *
  clear ha hb
  obtain ⟨h1, ⟨k1, l1, m1, s1, lo1, hi1⟩⟩ := a
  obtain ⟨h2, ⟨k2, l2, m2, s2, lo2, hi2⟩⟩ := b
  obtain ⟨kk, l, m, s, lo, hi⟩ := J
  dsimp only at *
  have q1 : (k1 != 0) = true := by simpa using e1
  have q2 : (k2 != 0) = true := by simpa using e2
  have q3 : (kk != 0) = true := by simpa using e3
  clear e1 e2 e3
  unfold rV at RJ
  unfold kV
  dsimp only at *
  replace RJ := hid RJ
  have BL := bld_k_r 255
  go_enter Try.func36, Try.ntmps36
  go_wp2_with fail
  refine (RJ.out _).mono ?_
  rintro e w1 ⟨rfl, z⟩
  have JX : KC w1 (w.heap.size) ⟨h1, ⟨k1, l1, m1, s1, lo1, hi1⟩⟩ := (((KC.new (x := ⟨h1, ⟨k1, l1, m1, s1, lo1, hi1⟩⟩) rfl).alloc _).alloc _).below z
  have JY : KC w1 (w.heap.size + 1) ⟨h2, ⟨k2, l2, m2, s2, lo2, hi2⟩⟩ := ((KC.new (x := ⟨h2, ⟨k2, l2, m2, s2, lo2, hi2⟩⟩) (by simp)).alloc _).below z
  have JR : KC w1 (w.heap.size + 1 + 1) k0 := (KC.new (x := k0) (by simp)).below z
  have B := below_next (bel_alloc (bel_alloc (bel_alloc (Below.refl w.heap.size w)))) z
  clear z
  have JX0 := JX.c0
  have JX1 := JX.c1
  have JX2 := JX.c2
  have JX3 := JX.c3
  have JX4 := JX.c4
  have JX5 := JX.c5
  have JX6 := JX.c6
  have JX7 := JX.c7
  have JX8 := JX.c8
  have JX9 := JX.c9
  have JY0 := JY.c0
  have JY1 := JY.c1
  have JY2 := JY.c2
  have JY3 := JY.c3
  have JY4 := JY.c4
  have JY5 := JY.c5
  have JY6 := JY.c6
  have JY7 := JY.c7
  have JY8 := JY.c8
  have JY9 := JY.c9
  have JR0 := JR.c0
  have JR1 := JR.c1
  have JR2 := JR.c2
  have JR3 := JR.c3
  have JR4 := JR.c4
  have JR5 := JR.c5
  have JR6 := JR.c6
  have JR7 := JR.c7
  have JR8 := JR.c8
  have JR9 := JR.c9
  have JXl := JX.lt
  have JYl := JY.lt
  have JRl := JR.lt
  have JRf0 := JR.f0
  have JRf1 := JR.f1
  have JRf2 := JR.f2
  have JRf3 := JR.f3
  have JRf4 := JR.f4
  have JRf5 := JR.f5
  have JRf6 := JR.f6
  have JRf7 := JR.f7
  have JRf8 := JR.f8
  have JRf9 := JR.f9
  try dsimp only at JX0 JX1 JX2 JX3 JX4 JX5 JX6 JX7 JX8 JX9 JY0 JY1 JY2 JY3 JY4 JY5 JY6 JY7 JY8 JY9 JR0 JR1 JR2 JR3 JR4 JR5 JR6 JR7 JR8 JR9
  have lb := B.size
  go_wp2
  exact bodyPost_ret (v := kV ⟨255#8, ⟨kk, l, m, s, lo, hi⟩⟩) (by simp [results, Try.results36, go_sem, JX0, JX1, JX2, JX3, JX4, JX5, JX6, JX7, JX8, JX9, JY0, JY1, JY2, JY3, JY4, JY5, JY6, JY7, JY8, JY9, JR0, JR1, JR2, JR3, JR4, JR5, JR6, JR7, JR8, JR9, JXl, JYl, JRl]; try first | rfl | exact ⟨rfl, rfl⟩) rfl ⟨rfl, bel_alloc (putK_below ⟨255#8, ⟨kk, l, m, s, lo, hi⟩⟩ B (by omega))⟩
set_option maxHeartbeats 16000000 in
theorem js_bits (a b : Sk) (ha : Rm a.r) (hb : Rm b.r) (e3 : (rJoin a.r b.r).k = 0) (w : World) : Calls Try.prog 36 #[kV a, kV b] w fun e w' => e = .returned (kV ⟨sure a &&& sure b, r0⟩) ∧ Below w.heap.size w w' := by
  have RJ := hid (fun W => rJoinReg_any a.r b.r ha hb W)
  have SA := hid (fun (j : Nat) (hj : j < 8) W => rSure_any a j hj W)
  have SB := hid (fun (j : Nat) (hj : j < 8) W => rSure_any b j hj W)
  have HJ := hid e3
  generalize rJoin a.r b.r = J at *
  generalize sure a = S1 at *
  generalize sure b = S2 at *
  clear ha hb e3
  unfold rV at RJ
  unfold kV at SA SB ⊢
  have BZ := hid (fun W => bld_k_0 W)
  go_enter Try.func36, Try.ntmps36
  refine wp_seq ?_
  refine Code.wp_mono (Q := CutX fun a' W' => (KC W' (w.heap.size) a ∧ KC W' (w.heap.size + 1) b ∧ KC W' (w.heap.size + 1 + 1) k0 ∧ Below w.heap.size w W') ∧ a' = ⟨#[.agg #[.int .u8 (vb a.h), .int .u8 a.r.k, .bool a.r.l, .int .i64 a.r.m, .int .u64 (ub a.r.s.1.1), .int .u64 (ub a.r.s.1.2), .int .u64 (ub a.r.s.2.1), .int .u64 (ub a.r.s.2.2), .int .i64 a.r.lo, .int .i64 a.r.hi], .agg #[.int .u8 (vb b.h), .int .u8 b.r.k, .bool b.r.l, .int .i64 b.r.m, .int .u64 (ub b.r.s.1.1), .int .u64 (ub b.r.s.1.2), .int .u64 (ub b.r.s.2.1), .int .u64 (ub b.r.s.2.2), .int .i64 b.r.lo, .int .i64 b.r.hi], .pointer (some ⟨w.heap.size, 0, none⟩), .pointer (some ⟨w.heap.size + 1, 0, none⟩), .pointer (some ⟨w.heap.size + 1 + 1, 0, none⟩), undef, undef, undef, undef, undef, undef, undef, undef, undef, undef, undef, undef, undef, undef, undef, undef, undef, undef, undef, undef, undef, undef, undef, undef, undef, undef, undef, undef, undef, undef, undef, undef, undef, undef, undef, undef, undef, undef, undef, undef, undef, undef, undef], []⟩) (CutX.imp ?_) ?_
  rotate_left
  · go_wp2
    exact ⟨⟨((KC.new rfl).alloc _).alloc _, (KC.new (by simp)).alloc _, KC.new (x := k0) (by simp), bel_alloc (bel_alloc (bel_alloc (Below.refl _ _)))⟩, rfl⟩
  rintro a' w1 ⟨⟨JX, JY, JR, B⟩, rfl⟩
  refine wp_seq ?_
  refine cutS [5, 8, 9, 10, 11, 12, 13, 14, 15, 16, 17, 18, 19, 20, 21, 22, 23, 24, 25] (fun us W' => KC W' (w.heap.size) a ∧ KC W' (w.heap.size + 1) b ∧ KC W' (w.heap.size + 1 + 1) k0 ∧ Below w.heap.size w W') ?_ ?_
  · by_cases e1 : a.r.k = 0
    · have q1 : (a.r.k != 0) = false := by simpa using e1
      clear e1
      have JX0 := JX.c0
      have JX1 := JX.c1
      have JX2 := JX.c2
      have JX3 := JX.c3
      have JX4 := JX.c4
      have JX5 := JX.c5
      have JX6 := JX.c6
      have JX7 := JX.c7
      have JX8 := JX.c8
      have JX9 := JX.c9
      have JY0 := JY.c0
      have JY1 := JY.c1
      have JY2 := JY.c2
      have JY3 := JY.c3
      have JY4 := JY.c4
      have JY5 := JY.c5
      have JY6 := JY.c6
      have JY7 := JY.c7
      have JY8 := JY.c8
      have JY9 := JY.c9
      have JXl := JX.lt
      have JYl := JY.lt
      go_wp2
      exact cutEnd ⟨JX, JY, JR, B⟩ (by kernel_rfl)
    · have q1 : (a.r.k != 0) = true := by simpa using e1
      clear e1
      by_cases e2 : b.r.k = 0
      · have q2 : (b.r.k != 0) = false := by simpa using e2
        clear e2
        have JX0 := JX.c0
        have JX1 := JX.c1
        have JX2 := JX.c2
        have JX3 := JX.c3
        have JX4 := JX.c4
        have JX5 := JX.c5
        have JX6 := JX.c6
        have JX7 := JX.c7
        have JX8 := JX.c8
        have JX9 := JX.c9
        have JY0 := JY.c0
        have JY1 := JY.c1
        have JY2 := JY.c2
        have JY3 := JY.c3
        have JY4 := JY.c4
        have JY5 := JY.c5
        have JY6 := JY.c6
        have JY7 := JY.c7
        have JY8 := JY.c8
        have JY9 := JY.c9
        have JXl := JX.lt
        have JYl := JY.lt
        go_wp2
        exact cutEnd ⟨JX, JY, JR, B⟩ (by kernel_rfl)
      · have q2 : (b.r.k != 0) = true := by simpa using e2
        clear e2
        have JX0 := JX.c0
        have JX1 := JX.c1
        have JX2 := JX.c2
        have JX3 := JX.c3
        have JX4 := JX.c4
        have JX5 := JX.c5
        have JX6 := JX.c6
        have JX7 := JX.c7
        have JX8 := JX.c8
        have JX9 := JX.c9
        have JY0 := JY.c0
        have JY1 := JY.c1
        have JY2 := JY.c2
        have JY3 := JY.c3
        have JY4 := JY.c4
        have JY5 := JY.c5
        have JY6 := JY.c6
        have JY7 := JY.c7
        have JY8 := JY.c8
        have JY9 := JY.c9
        have JXl := JX.lt
        have JYl := JY.lt
        go_wp2_with fail
        refine (RJ.out _).mono ?_
        rintro e w2 ⟨rfl, z⟩
        clear JX0 JX1 JX2 JX3 JX4 JX5 JX6 JX7 JX8 JX9 JY0 JY1 JY2 JY3 JY4 JY5 JY6 JY7 JY8 JY9 JXl JYl
        replace JX := JX.below z
        replace JY := JY.below z
        replace JR := JR.below z
        replace B := below_next B z
        clear z
        have q3 : (J.k != 0) = false := by simpa using HJ.out
        go_wp2
        exact cutEnd ⟨((JX.alloc _)), ((JY.alloc _)), ((JR.alloc _)), bel_alloc B⟩ (by kernel_rfl)
  have HJ2 := HJ
  clear JX JY JR B RJ HJ HJ2
  intro w3 u5 u8 u9 u10 u11 u12 u13 u14 u15 u16 u17 u18 u19 u20 u21 u22 u23 u24 u25 hF
  obtain ⟨JX, JY, JR, B⟩ := hF
  simp only [sets, s1, s2, s3]
  simp only [Exit.then]
  have I0 := hid (JsI.new (w := w) _ JX JY JR B rfl)
  have JXl := JX.lt
  have JYl := JY.lt
  have JRl := JR.lt
  have lb := B.size
  have BZ0 := BZ.out
  clear JX JY JR B BZ
  generalize hS : S1 &&& S2 = S
  replace hS := hid hS
  refine wp_seq ?_
  refine cutS [6, 28] (fun us W' => us.getD 0 undef = .pointer (some ⟨w3.heap.size, 0, none⟩) ∧ JsI w a b w3.heap.size 0#8 W') ?_ ?_
  · go_wp2
    have I1 := I0.out
    exact cutEnd ⟨by kernel_rfl, I1⟩ (by kernel_rfl)
  clear I0
  intro w33 v6 v28 hF
  obtain ⟨e6, I1⟩ := hF
  replace e6 : v6 = .pointer (some ⟨w3.heap.size, 0, none⟩) := e6
  subst e6
  simp only [sets, s1, s2, s3]
  simp only [Exit.then]
  have I0 := hid I1
  clear I1 BZ0 JXl JYl JRl lb
  go_wp2_with fail
  go_loopw [7] (fun i w' => ∃ k : Nat, k ≤ 8 ∧ i = .int .i64 k ∧ Hid (JsI w a b w3.heap.size (upto S k) w')) (fun i _ => 8 - (intOf i).toNat)
  case atStart => exact ⟨0, by omega, rfl, hid (by rw [upto_zero]; exact I0.out)⟩
  case round =>
    obtain ⟨k, hk, rfl, hI⟩ := hrel
    by_cases hlt : k < 8
    · have hlt' : (k : Int) < 8 := by omega
      have hk0 : (0 : Int) ≤ k := by omega
      have HA := hid (SA.out k hlt)
      have HB := hid (SB.out k hlt)
      have x0 := hI.out.jx.c0
      have x1 := hI.out.jx.c1
      have x2 := hI.out.jx.c2
      have x3 := hI.out.jx.c3
      have x4 := hI.out.jx.c4
      have x5 := hI.out.jx.c5
      have x6 := hI.out.jx.c6
      have x7 := hI.out.jx.c7
      have x8 := hI.out.jx.c8
      have x9 := hI.out.jx.c9
      have xl := hI.out.jx.lt
      go_wp2_with fail
      refine (HA.out _).mono ?_
      rintro e w4 ⟨rfl, z⟩
      have hI2 := hid (hI.out.next z)
      clear hI z x0 x1 x2 x3 x4 x5 x6 x7 x8 x9 xl
      have hI := hI2
      clear hI2
      cases q1 : S1.getLsbD k
      · have HN := hid (upto_no (x := S) hlt (by rw [← hS.out, BitVec.getLsbD_and, q1]; rfl))
        clear q1
        go_wp2
        go_roundw
        case rel => first | exact ⟨k + 1, by omega, by go_num, hid (by rw [← HN.out]; exact hI.out)⟩ | ((repeat apply Exists.intro); exact ⟨⟨k + 1, by omega, by go_num, hid (by rw [← HN.out]; exact hI.out)⟩, rfl⟩)
        case measure => simp [intOf]; omega
      · have HQ := hid q1
        clear q1
        have y0 := hI.out.jy.c0
        have y1 := hI.out.jy.c1
        have y2 := hI.out.jy.c2
        have y3 := hI.out.jy.c3
        have y4 := hI.out.jy.c4
        have y5 := hI.out.jy.c5
        have y6 := hI.out.jy.c6
        have y7 := hI.out.jy.c7
        have y8 := hI.out.jy.c8
        have y9 := hI.out.jy.c9
        have yl := hI.out.jy.lt
        go_wp2_with fail
        refine (HB.out _).mono ?_
        rintro e w5 ⟨rfl, z⟩
        have hI2 := hid (hI.out.next z)
        clear hI z y0 y1 y2 y3 y4 y5 y6 y7 y8 y9 yl
        have hI := hI2
        clear hI2
        cases q2 : S2.getLsbD k
        · have HN := hid (upto_no (x := S) hlt (by rw [← hS.out, BitVec.getLsbD_and, HQ.out, q2]; rfl))
          clear q2
          go_wp2
          go_roundw
          case rel => first | exact ⟨k + 1, by omega, by go_num, hid (by rw [← HN.out]; exact hI.out)⟩ | ((repeat apply Exists.intro); exact ⟨⟨k + 1, by omega, by go_num, hid (by rw [← HN.out]; exact hI.out)⟩, rfl⟩)
          case measure => simp [intOf]; omega
        · have HY := hid (upto_yes (x := S) hlt (by rw [← hS.out, BitVec.getLsbD_and, HQ.out, q2]; rfl))
          have HM := hid (show (vb (upto S k) + 2 ^ k) % 256 = vb (upto S (k + 1)) by rw [HY.out]; exact Int.emod_eq_of_lt (vb_ge _) (vb_lt _))
          clear q2
          have o0 := hI.out.jo.c0
          have o1 := hI.out.jo.c1
          have o2 := hI.out.jo.c2
          have o3 := hI.out.jo.c3
          have o4 := hI.out.jo.c4
          have o5 := hI.out.jo.c5
          have o6 := hI.out.jo.c6
          have o7 := hI.out.jo.c7
          have o8 := hI.out.jo.c8
          have o9 := hI.out.jo.c9
          have ol := hI.out.jo.lt
          have of0 := hI.out.jo.f0
          go_wp2_with fail
          go_region
          go_wp2
          go_roundw
          case rel => first | exact ⟨k + 1, by omega, by go_num, hid (JsI.next (by have X := hI.out.head (upto S (k + 1)); rw [← HM.out] at X; exact X) (below_dr _))⟩ | ((repeat apply Exists.intro); exact ⟨⟨k + 1, by omega, by go_num, hid (JsI.next (by have X := hI.out.head (upto S (k + 1)); rw [← HM.out] at X; exact X) (below_dr _))⟩, rfl⟩)
          case measure => simp [intOf]; omega
    · have hk8 : k = 8 := by omega
      subst hk8
      rw [upto_full] at hI
      have JR := hI.out.jr
      have JO := hI.out.jo
      have B := hI.out.bel
      have JO0 := JO.c0
      have JO1 := JO.c1
      have JO2 := JO.c2
      have JO3 := JO.c3
      have JO4 := JO.c4
      have JO5 := JO.c5
      have JO6 := JO.c6
      have JO7 := JO.c7
      have JO8 := JO.c8
      have JO9 := JO.c9
      have JOl := JO.lt
      have JR0 := JR.c0
      have JR1 := JR.c1
      have JR2 := JR.c2
      have JR3 := JR.c3
      have JR4 := JR.c4
      have JR5 := JR.c5
      have JR6 := JR.c6
      have JR7 := JR.c7
      have JR8 := JR.c8
      have JR9 := JR.c9
      have JRl := JR.lt
      have JRf0 := JR.f0
      have JRf1 := JR.f1
      have JRf2 := JR.f2
      have JRf3 := JR.f3
      have JRf4 := JR.f4
      have JRf5 := JR.f5
      have JRf6 := JR.f6
      have JRf7 := JR.f7
      have JRf8 := JR.f8
      have JRf9 := JR.f9
      try dsimp only at JO0 JR0 JO1 JR1 JO2 JR2 JO3 JR3 JO4 JR4 JO5 JR5 JO6 JR6 JO7 JR7 JO8 JR8 JO9 JR9
      have lb := B.size
      go_wp2
      exact bodyPost_ret (v := kV ⟨S, r0⟩) (by simp [results, Try.results36, go_sem, JR0, JR1, JR2, JR3, JR4, JR5, JR6, JR7, JR8, JR9, JRl, JRf0, JRf1, JRf2, JRf3, JRf4, JRf5, JRf6, JRf7, JRf8, JRf9]; try first | rfl | exact ⟨rfl, rfl⟩) rfl ⟨rfl, putK_below ⟨S, r0⟩ B (by omega)⟩
theorem rJoinSlot_any (a b : Sk) (ha : kMay a = true) (hb : kMay b = true) (w : World) : Calls Try.prog 36 #[kV a, kV b] w fun e w' => e = .returned (kV (kJoin a b)) ∧ Below w.heap.size w w' := by
  have ra := kMay_Rm ha
  have rb := kMay_Rm hb
  unfold kJoin
  by_cases h : (rJoin a.r b.r).k = 0
  · rw [if_pos h]; exact js_bits a b ra rb h w
  · rw [if_neg h]
    exact js_reg a b ra rb (fun e => h (rJoin_none ra rb (.inl e))) (fun e => h (rJoin_none ra rb (.inr e))) h w
end Go.Proofs.Ytodmikjpmcabiaa
