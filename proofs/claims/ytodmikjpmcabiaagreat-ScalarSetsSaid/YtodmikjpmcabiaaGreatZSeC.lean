/-
  ScalarSets: the walk.
-/
import Derived.Test.YtodmikjpmcabiaaGreatZSeA
import Derived.Test.YtodmikjpmcabiaaGreatZSoJ
import Derived.Test.YtodmikjpmcabiaaGreatZSeD
import Derived.Test.YtodmikjpmcabiaaGreatZScR
import Derived.Test.YtodmikjpmcabiaaGreatZHrU
import Derived.Test.YtodmikjpmcabiaaGreatZScZ
import Derived.Deep.RegionHeld3
namespace Go.Proofs.YtodmikjpmcabiaaGreat
set_option linter.unusedSimpArgs false
set_option linter.unusedVariables false
set_option maxRecDepth 100000
set_option maxRecDepth 100000
open Go.ChangeShapes Go.WideShapes Go.ChangeAt Go.RowKit

theorem neq_sc (x y : Sc) (W : World) : (binOp .neq 28 (sv x) (sv y)).run Tryz.prog W = .ok (.bool (!(x == y))) W := by
  obtain ⟨⟨a, b⟩, a2, b2⟩ := x
  obtain ⟨⟨c, d⟩, c2, d2⟩ := y
  unfold sv
  have e : ((((a, b), (a2, b2)) : Sc) == ((c, d), (c2, d2))) = ((a == c) && (b == d) && ((a2 == c2) && (b2 == d2))) := rfl
  rw [e]
  go_simp
  by_cases h1 : a = c <;> by_cases h2 : b = d <;> by_cases h3 : a2 = c2 <;> by_cases h4 : b2 = d2 <;> simp [h1, h2, h3, h4]
theorem neq_self (x : Sc) (W : World) : (binOp .neq 28 (sv x) (sv x)).run Tryz.prog W = .ok (.bool false) W := by rw [neq_sc]; simp
set_option maxHeartbeats 16000000 in
theorem sets_walk (a b : Sc) (n : B64) (w : World) : Calls Tryz.prog 4 #[sv a, sv b, .int .u64 (ub n)] w fun e w' => e = .returned (.bool true) ∧ Below w.heap.size w w' := by
  obtain ⟨P, hP⟩ : ∃ x, x = optS (settle (a.1, b.2)) := ⟨_, rfl⟩
  obtain ⟨k1, hk1⟩ : ∃ x, x = (settle (a.1, b.2)).isSome := ⟨_, rfl⟩
  obtain ⟨J, hJ⟩ : ∃ x, x = joinX a b := ⟨_, rfl⟩
  obtain ⟨E, hE⟩ : ∃ x, x = joinXE a b := ⟨_, rfl⟩
  obtain ⟨M, hM⟩ : ∃ x, x = optS (meetO a b) := ⟨_, rfl⟩
  obtain ⟨k2, hk2⟩ : ∃ x, x = (meetO a b).isSome := ⟨_, rfl⟩
  obtain ⟨O1, hO1⟩ : ∃ x, x = ofX n := ⟨_, rfl⟩
  obtain ⟨O2, hO2⟩ : ∃ x, x = allX := ⟨_, rfl⟩
  obtain ⟨O3, hO3⟩ : ∃ x, x = belowI ((n.toNat % 100 : Nat) : Int) := ⟨_, rfl⟩
  obtain ⟨q1, hq1⟩ : ∃ x, x = mayX a := ⟨_, rfl⟩
  obtain ⟨q2, hq2⟩ : ∃ x, x = hasX a n := ⟨_, rfl⟩
  obtain ⟨q3, hq3⟩ : ∃ x, x = inX a b := ⟨_, rfl⟩
  have XS : ∀ W, Calls Tryz.prog 10 #[tv a.1, tv b.2] W fun e w' => e = .returned (.tuple #[sv P, .bool k1]) ∧ Below W.heap.size W w' := fun W => by rw [hP, hk1]; exact cSettle_any _ _ W
  have XT : ∀ W, Calls Tryz.prog 11 #[tv a.1, tv b.2] W fun e w' => e = .returned (.tuple #[sv P, .bool k1]) ∧ Below W.heap.size W w' := fun W => by rw [hP, hk1]; exact rSettle_any _ _ W
  have XJ : ∀ W, Calls Tryz.prog 12 #[sv a, sv b] W fun e w' => e = .returned (.tuple #[sv J, .int .i64 E]) ∧ Below W.heap.size W w' := fun W => by rw [hJ, hE]; exact cJoinX_any a b W
  have XK : ∀ W, Calls Tryz.prog 13 #[sv a, sv b] W fun e w' => e = .returned (.tuple #[sv J, .int .i64 E]) ∧ Below W.heap.size W w' := fun W => by rw [hJ, hE]; exact rJoinX_any a b W
  have XM : ∀ W, Calls Tryz.prog 14 #[sv a, sv b] W fun e w' => e = .returned (.tuple #[sv M, .bool k2]) ∧ Below W.heap.size W w' := fun W => by rw [hM, hk2]; exact cMeet_any a b W
  have XN : ∀ W, Calls Tryz.prog 15 #[sv a, sv b] W fun e w' => e = .returned (.tuple #[sv M, .bool k2]) ∧ Below W.heap.size W w' := fun W => by rw [hM, hk2]; exact rMeetX_any a b W
  have XO : ∀ W, Calls Tryz.prog 16 #[.int .u64 (ub n)] W fun e w' => e = .returned (sv O1) ∧ Below W.heap.size W w' := fun W => by rw [hO1]; exact cOf_any n W
  have XP : ∀ W, Calls Tryz.prog 17 #[.int .u64 (ub n)] W fun e w' => e = .returned (sv O1) ∧ Below W.heap.size W w' := fun W => by rw [hO1]; exact rOfX_any n W
  have XA : ∀ W, Calls Tryz.prog 18 #[] W fun e w' => e = .returned (sv O2) ∧ Below W.heap.size W w' := fun W => by rw [hO2]; exact cAll_any W
  have XB : ∀ W, Calls Tryz.prog 19 #[] W fun e w' => e = .returned (sv O2) ∧ Below W.heap.size W w' := fun W => by rw [hO2]; exact rAllX_any W
  have XC : ∀ W, Calls Tryz.prog 20 #[.int .i64 ((n.toNat % 100 : Nat) : Int)] W fun e w' => e = .returned (sv O3) ∧ Below W.heap.size W w' := fun W => by rw [hO3]; exact cBelow_any _ W
  have XD : ∀ W, Calls Tryz.prog 21 #[.int .i64 ((n.toNat % 100 : Nat) : Int)] W fun e w' => e = .returned (sv O3) ∧ Below W.heap.size W w' := fun W => by rw [hO3]; exact rBelowI_any _ (Nat.mod_lt _ (by decide)) W
  have YA : ∀ W, Calls Tryz.prog 22 #[sv a] W fun e w' => e = .returned (.bool q1) ∧ Below W.heap.size W w' := fun W => by rw [hq1]; exact cMay_any a W
  have YB : ∀ W, Calls Tryz.prog 23 #[sv a] W fun e w' => e = .returned (.bool q1) ∧ Below W.heap.size W w' := fun W => by rw [hq1]; exact rMayX_any a W
  have YC : ∀ W, Calls Tryz.prog 24 #[sv a, .int .u64 (ub n)] W fun e w' => e = .returned (.bool q2) ∧ Below W.heap.size W w' := fun W => by rw [hq2]; exact cHas_any a n W
  have YD : ∀ W, Calls Tryz.prog 25 #[sv a, .int .u64 (ub n)] W fun e w' => e = .returned (.bool q2) ∧ Below W.heap.size W w' := fun W => by rw [hq2]; exact rHasX_any a n W
  have YE : ∀ W, Calls Tryz.prog 26 #[sv a, sv b] W fun e w' => e = .returned (.bool q3) ∧ Below W.heap.size W w' := fun W => by rw [hq3]; exact cIn_any a b W
  have YF : ∀ W, Calls Tryz.prog 27 #[sv a, sv b] W fun e w' => e = .returned (.bool q3) ∧ Below W.heap.size W w' := fun W => by rw [hq3]; exact rInX_any a b W
  have NJ := hid (fun W => neq_self J W)
  have NP := hid (fun W => neq_self P W)
  have NM := hid (fun W => neq_self M W)
  have N1 := hid (fun W => neq_self O1 W)
  have N2 := hid (fun W => neq_self O2 W)
  have N3 := hid (fun W => neq_self O3 W)
  clear hP hk1 hJ hE hM hk2 hO1 hO2 hO3 hq1 hq2 hq3
  have XW := awake_true
  have h100 : wrap64 ((ub n).tmod 100) = ((n.toNat % 100 : Nat) : Int) := by rw [Int.tmod_eq_emod_of_nonneg (ub_ge n)]; unfold wrap64 ub; omega
  have h1000 : (0 : Int) ≤ ((n.toNat % 100 : Nat) : Int) := by omega
  have h1001 : ((n.toNat % 100 : Nat) : Int) < 100 := by have := Nat.mod_lt n.toNat (show 100 > 0 by decide); omega
  generalize ((n.toNat % 100 : Nat) : Int) = NN at *
  obtain ⟨⟨v, m⟩, l, h⟩ := a
  obtain ⟨⟨v', m'⟩, l', h'⟩ := b
  unfold sv at XS XT XJ XK XM XN XO XP XA XB XC XD YA YB YC YD YE YF NJ NP NM N1 N2 N3 ⊢
  unfold tv at XS XT
  dsimp only at XS XT XJ XK XM XN XO XP XA XB XC XD YA YB YC YD YE YF NJ NP NM N1 N2 N3 ⊢
  replace XS := hid XS
  replace XT := hid XT
  replace XJ := hid XJ
  replace XK := hid XK
  replace XM := hid XM
  replace XN := hid XN
  replace XO := hid XO
  replace XP := hid XP
  replace XA := hid XA
  replace XB := hid XB
  replace XC := hid XC
  replace XD := hid XD
  replace YA := hid YA
  replace YB := hid YB
  replace YC := hid YC
  replace YD := hid YD
  replace YE := hid YE
  replace YF := hid YF
  replace XW := hid XW
  go_enter Tryz.func4, Tryz.ntmps4
  go_wp2_with fail
  have JX : SC ((w.alloc (.cells #[.int .u64 (ub v), .int .u64 (ub m), .int .u64 (ub l), .int .u64 (ub h)] 28)).alloc (.cells #[.int .u64 (ub v'), .int .u64 (ub m'), .int .u64 (ub l'), .int .u64 (ub h')] 28)) (w.heap.size) ((v, m), l, h) := ((SC.new (x := ((v, m), l, h)) rfl).alloc _)
  have JY : SC ((w.alloc (.cells #[.int .u64 (ub v), .int .u64 (ub m), .int .u64 (ub l), .int .u64 (ub h)] 28)).alloc (.cells #[.int .u64 (ub v'), .int .u64 (ub m'), .int .u64 (ub l'), .int .u64 (ub h')] 28)) (w.heap.size + 1) ((v', m'), l', h') := (SC.new (x := ((v', m'), l', h')) (by simp))
  have B : Below w.heap.size w ((w.alloc (.cells #[.int .u64 (ub v), .int .u64 (ub m), .int .u64 (ub l), .int .u64 (ub h)] 28)).alloc (.cells #[.int .u64 (ub v'), .int .u64 (ub m'), .int .u64 (ub l'), .int .u64 (ub h')] 28)) := (bel_alloc (bel_alloc (Below.refl _ _)))
  generalize ((w.alloc (.cells #[.int .u64 (ub v), .int .u64 (ub m), .int .u64 (ub l), .int .u64 (ub h)] 28)).alloc (.cells #[.int .u64 (ub v'), .int .u64 (ub m'), .int .u64 (ub l'), .int .u64 (ub h')] 28)) = w00 at *
  have JX0 := JX.c0
  have JX1 := JX.c1
  have JX2 := JX.c2
  have JX3 := JX.c3
  have JXl := JX.lt
  have JY0 := JY.c0
  have JY1 := JY.c1
  have JY2 := JY.c2
  have JY3 := JY.c3
  have JYl := JY.lt
  have lb := B.size
  go_wp2_with fail
  refine (XS.out _).mono ?_
  rintro e w1 ⟨rfl, z⟩
  clear JX0 JX1 JX2 JX3 JXl JY0 JY1 JY2 JY3 JYl lb
  replace JX := JX.below z
  replace JY := JY.below z
  replace B := below_next B z
  clear z
  have JX0 := JX.c0
  have JX1 := JX.c1
  have JX2 := JX.c2
  have JX3 := JX.c3
  have JXl := JX.lt
  have JY0 := JY.c0
  have JY1 := JY.c1
  have JY2 := JY.c2
  have JY3 := JY.c3
  have JYl := JY.lt
  have lb := B.size
  go_wp2_with fail
  refine (XT.out _).mono ?_
  rintro e w2 ⟨rfl, z⟩
  clear JX0 JX1 JX2 JX3 JXl JY0 JY1 JY2 JY3 JYl lb
  have g2JX : w.heap.size < w1.heap.size := JX.lt
  have g2JY : w.heap.size + 1 < w1.heap.size := JY.lt
  have g2B := B.size
  replace JX := (JX.alloc _).below z
  replace JY := (JY.alloc _).below z
  have J1 : SC w2 (w1.heap.size) (P) := (SC.new rfl).below z
  replace B := below_next (bel_alloc B) z
  clear z
  have JX0 := JX.c0
  have JX1 := JX.c1
  have JX2 := JX.c2
  have JX3 := JX.c3
  have JXl := JX.lt
  have JY0 := JY.c0
  have JY1 := JY.c1
  have JY2 := JY.c2
  have JY3 := JY.c3
  have JYl := JY.lt
  have J10 := J1.c0
  have J11 := J1.c1
  have J12 := J1.c2
  have J13 := J1.c3
  have J1l := J1.lt
  have lb := B.size
  go_wp2_with fail
  refine (XJ.out _).mono ?_
  rintro e w3 ⟨rfl, z⟩
  clear JX0 JX1 JX2 JX3 JXl JY0 JY1 JY2 JY3 JYl J10 J11 J12 J13 J1l lb
  have g3JX : w.heap.size < w2.heap.size := JX.lt
  have g3JY : w.heap.size + 1 < w2.heap.size := JY.lt
  have g3J1 : w1.heap.size < w2.heap.size := J1.lt
  have g3B := B.size
  replace JX := (JX.alloc _).below z
  replace JY := (JY.alloc _).below z
  replace J1 := (J1.alloc _).below z
  have J2 : SC w3 (w2.heap.size) (P) := (SC.new rfl).below z
  replace B := below_next (bel_alloc B) z
  clear z
  have JX0 := JX.c0
  have JX1 := JX.c1
  have JX2 := JX.c2
  have JX3 := JX.c3
  have JXl := JX.lt
  have JY0 := JY.c0
  have JY1 := JY.c1
  have JY2 := JY.c2
  have JY3 := JY.c3
  have JYl := JY.lt
  have J10 := J1.c0
  have J11 := J1.c1
  have J12 := J1.c2
  have J13 := J1.c3
  have J1l := J1.lt
  have J20 := J2.c0
  have J21 := J2.c1
  have J22 := J2.c2
  have J23 := J2.c3
  have J2l := J2.lt
  have lb := B.size
  go_wp2_with fail
  refine (XK.out _).mono ?_
  rintro e w4 ⟨rfl, z⟩
  clear JX0 JX1 JX2 JX3 JXl JY0 JY1 JY2 JY3 JYl J10 J11 J12 J13 J1l J20 J21 J22 J23 J2l lb
  have g4JX : w.heap.size < w3.heap.size := JX.lt
  have g4JY : w.heap.size + 1 < w3.heap.size := JY.lt
  have g4J1 : w1.heap.size < w3.heap.size := J1.lt
  have g4J2 : w2.heap.size < w3.heap.size := J2.lt
  have g4B := B.size
  replace JX := (JX.alloc _).below z
  replace JY := (JY.alloc _).below z
  replace J1 := (J1.alloc _).below z
  replace J2 := (J2.alloc _).below z
  have J3 : SC w4 (w3.heap.size) (J) := (SC.new rfl).below z
  replace B := below_next (bel_alloc B) z
  clear z
  have JX0 := JX.c0
  have JX1 := JX.c1
  have JX2 := JX.c2
  have JX3 := JX.c3
  have JXl := JX.lt
  have JY0 := JY.c0
  have JY1 := JY.c1
  have JY2 := JY.c2
  have JY3 := JY.c3
  have JYl := JY.lt
  have J10 := J1.c0
  have J11 := J1.c1
  have J12 := J1.c2
  have J13 := J1.c3
  have J1l := J1.lt
  have J20 := J2.c0
  have J21 := J2.c1
  have J22 := J2.c2
  have J23 := J2.c3
  have J2l := J2.lt
  have J30 := J3.c0
  have J31 := J3.c1
  have J32 := J3.c2
  have J33 := J3.c3
  have J3l := J3.lt
  have lb := B.size
  go_wp2_with fail
  refine (XM.out _).mono ?_
  rintro e w5 ⟨rfl, z⟩
  clear JX0 JX1 JX2 JX3 JXl JY0 JY1 JY2 JY3 JYl J10 J11 J12 J13 J1l J20 J21 J22 J23 J2l J30 J31 J32 J33 J3l lb
  have g5JX : w.heap.size < w4.heap.size := JX.lt
  have g5JY : w.heap.size + 1 < w4.heap.size := JY.lt
  have g5J1 : w1.heap.size < w4.heap.size := J1.lt
  have g5J2 : w2.heap.size < w4.heap.size := J2.lt
  have g5J3 : w3.heap.size < w4.heap.size := J3.lt
  have g5B := B.size
  replace JX := (JX.alloc _).below z
  replace JY := (JY.alloc _).below z
  replace J1 := (J1.alloc _).below z
  replace J2 := (J2.alloc _).below z
  replace J3 := (J3.alloc _).below z
  have J4 : SC w5 (w4.heap.size) (J) := (SC.new rfl).below z
  replace B := below_next (bel_alloc B) z
  clear z
  have JX0 := JX.c0
  have JX1 := JX.c1
  have JX2 := JX.c2
  have JX3 := JX.c3
  have JXl := JX.lt
  have JY0 := JY.c0
  have JY1 := JY.c1
  have JY2 := JY.c2
  have JY3 := JY.c3
  have JYl := JY.lt
  have J10 := J1.c0
  have J11 := J1.c1
  have J12 := J1.c2
  have J13 := J1.c3
  have J1l := J1.lt
  have J20 := J2.c0
  have J21 := J2.c1
  have J22 := J2.c2
  have J23 := J2.c3
  have J2l := J2.lt
  have J30 := J3.c0
  have J31 := J3.c1
  have J32 := J3.c2
  have J33 := J3.c3
  have J3l := J3.lt
  have J40 := J4.c0
  have J41 := J4.c1
  have J42 := J4.c2
  have J43 := J4.c3
  have J4l := J4.lt
  have lb := B.size
  go_wp2_with fail
  refine (XN.out _).mono ?_
  rintro e w6 ⟨rfl, z⟩
  clear JX0 JX1 JX2 JX3 JXl JY0 JY1 JY2 JY3 JYl J10 J11 J12 J13 J1l J20 J21 J22 J23 J2l J30 J31 J32 J33 J3l J40 J41 J42 J43 J4l lb
  have g6JX : w.heap.size < w5.heap.size := JX.lt
  have g6JY : w.heap.size + 1 < w5.heap.size := JY.lt
  have g6J1 : w1.heap.size < w5.heap.size := J1.lt
  have g6J2 : w2.heap.size < w5.heap.size := J2.lt
  have g6J3 : w3.heap.size < w5.heap.size := J3.lt
  have g6J4 : w4.heap.size < w5.heap.size := J4.lt
  have g6B := B.size
  replace JX := (JX.alloc _).below z
  replace JY := (JY.alloc _).below z
  replace J1 := (J1.alloc _).below z
  replace J2 := (J2.alloc _).below z
  replace J3 := (J3.alloc _).below z
  replace J4 := (J4.alloc _).below z
  have J5 : SC w6 (w5.heap.size) (M) := (SC.new rfl).below z
  replace B := below_next (bel_alloc B) z
  clear z
  have JX0 := JX.c0
  have JX1 := JX.c1
  have JX2 := JX.c2
  have JX3 := JX.c3
  have JXl := JX.lt
  have JY0 := JY.c0
  have JY1 := JY.c1
  have JY2 := JY.c2
  have JY3 := JY.c3
  have JYl := JY.lt
  have J10 := J1.c0
  have J11 := J1.c1
  have J12 := J1.c2
  have J13 := J1.c3
  have J1l := J1.lt
  have J20 := J2.c0
  have J21 := J2.c1
  have J22 := J2.c2
  have J23 := J2.c3
  have J2l := J2.lt
  have J30 := J3.c0
  have J31 := J3.c1
  have J32 := J3.c2
  have J33 := J3.c3
  have J3l := J3.lt
  have J40 := J4.c0
  have J41 := J4.c1
  have J42 := J4.c2
  have J43 := J4.c3
  have J4l := J4.lt
  have J50 := J5.c0
  have J51 := J5.c1
  have J52 := J5.c2
  have J53 := J5.c3
  have J5l := J5.lt
  have lb := B.size
  go_wp2_with fail
  clear JX0 JX1 JX2 JX3 JXl JY0 JY1 JY2 JY3 JYl J10 J11 J12 J13 J1l J20 J21 J22 J23 J2l J30 J31 J32 J33 J3l J40 J41 J42 J43 J4l J50 J51 J52 J53 J5l lb
  have J6 : SC (w6.alloc (.cells #[.int .u64 (ub M.1.1), .int .u64 (ub M.1.2), .int .u64 (ub M.2.1), .int .u64 (ub M.2.2)] 28)) w6.heap.size M := SC.new rfl
  have gq6JX : w.heap.size < w6.heap.size := JX.lt
  replace JX := JX.alloc (.cells #[.int .u64 (ub M.1.1), .int .u64 (ub M.1.2), .int .u64 (ub M.2.1), .int .u64 (ub M.2.2)] 28)
  have gq6JY : w.heap.size + 1 < w6.heap.size := JY.lt
  replace JY := JY.alloc (.cells #[.int .u64 (ub M.1.1), .int .u64 (ub M.1.2), .int .u64 (ub M.2.1), .int .u64 (ub M.2.2)] 28)
  have gq6J1 : w1.heap.size < w6.heap.size := J1.lt
  replace J1 := J1.alloc (.cells #[.int .u64 (ub M.1.1), .int .u64 (ub M.1.2), .int .u64 (ub M.2.1), .int .u64 (ub M.2.2)] 28)
  have gq6J2 : w2.heap.size < w6.heap.size := J2.lt
  replace J2 := J2.alloc (.cells #[.int .u64 (ub M.1.1), .int .u64 (ub M.1.2), .int .u64 (ub M.2.1), .int .u64 (ub M.2.2)] 28)
  have gq6J3 : w3.heap.size < w6.heap.size := J3.lt
  replace J3 := J3.alloc (.cells #[.int .u64 (ub M.1.1), .int .u64 (ub M.1.2), .int .u64 (ub M.2.1), .int .u64 (ub M.2.2)] 28)
  have gq6J4 : w4.heap.size < w6.heap.size := J4.lt
  replace J4 := J4.alloc (.cells #[.int .u64 (ub M.1.1), .int .u64 (ub M.1.2), .int .u64 (ub M.2.1), .int .u64 (ub M.2.2)] 28)
  have gq6J5 : w5.heap.size < w6.heap.size := J5.lt
  replace J5 := J5.alloc (.cells #[.int .u64 (ub M.1.1), .int .u64 (ub M.1.2), .int .u64 (ub M.2.1), .int .u64 (ub M.2.2)] 28)
  replace B := bel_alloc (o := (.cells #[.int .u64 (ub M.1.1), .int .u64 (ub M.1.2), .int .u64 (ub M.2.1), .int .u64 (ub M.2.2)] 28)) B
  generalize w6.alloc (.cells #[.int .u64 (ub M.1.1), .int .u64 (ub M.1.2), .int .u64 (ub M.2.1), .int .u64 (ub M.2.2)] 28) = w7 at *
  have NJ := NJ.out
  have NP := NP.out
  have NM := NM.out
  have N1 := N1.out
  have N2 := N2.out
  have N3 := N3.out
  have JX0 := JX.c0
  have JX1 := JX.c1
  have JX2 := JX.c2
  have JX3 := JX.c3
  have JXl := JX.lt
  have JY0 := JY.c0
  have JY1 := JY.c1
  have JY2 := JY.c2
  have JY3 := JY.c3
  have JYl := JY.lt
  have J10 := J1.c0
  have J11 := J1.c1
  have J12 := J1.c2
  have J13 := J1.c3
  have J1l := J1.lt
  have J20 := J2.c0
  have J21 := J2.c1
  have J22 := J2.c2
  have J23 := J2.c3
  have J2l := J2.lt
  have J30 := J3.c0
  have J31 := J3.c1
  have J32 := J3.c2
  have J33 := J3.c3
  have J3l := J3.lt
  have J40 := J4.c0
  have J41 := J4.c1
  have J42 := J4.c2
  have J43 := J4.c3
  have J4l := J4.lt
  have J50 := J5.c0
  have J51 := J5.c1
  have J52 := J5.c2
  have J53 := J5.c3
  have J5l := J5.lt
  have J60 := J6.c0
  have J61 := J6.c1
  have J62 := J6.c2
  have J63 := J6.c3
  have J6l := J6.lt
  have lb := B.size
  go_wp2_with fail
  refine (XO.out _).mono ?_
  rintro e w8 ⟨rfl, z⟩
  clear JX0 JX1 JX2 JX3 JXl JY0 JY1 JY2 JY3 JYl J10 J11 J12 J13 J1l J20 J21 J22 J23 J2l J30 J31 J32 J33 J3l J40 J41 J42 J43 J4l J50 J51 J52 J53 J5l J60 J61 J62 J63 J6l lb
  replace JX := JX.below z
  replace JY := JY.below z
  replace J1 := J1.below z
  replace J2 := J2.below z
  replace J3 := J3.below z
  replace J4 := J4.below z
  replace J5 := J5.below z
  replace J6 := J6.below z
  replace B := below_next B z
  clear z
  have JX0 := JX.c0
  have JX1 := JX.c1
  have JX2 := JX.c2
  have JX3 := JX.c3
  have JXl := JX.lt
  have JY0 := JY.c0
  have JY1 := JY.c1
  have JY2 := JY.c2
  have JY3 := JY.c3
  have JYl := JY.lt
  have J10 := J1.c0
  have J11 := J1.c1
  have J12 := J1.c2
  have J13 := J1.c3
  have J1l := J1.lt
  have J20 := J2.c0
  have J21 := J2.c1
  have J22 := J2.c2
  have J23 := J2.c3
  have J2l := J2.lt
  have J30 := J3.c0
  have J31 := J3.c1
  have J32 := J3.c2
  have J33 := J3.c3
  have J3l := J3.lt
  have J40 := J4.c0
  have J41 := J4.c1
  have J42 := J4.c2
  have J43 := J4.c3
  have J4l := J4.lt
  have J50 := J5.c0
  have J51 := J5.c1
  have J52 := J5.c2
  have J53 := J5.c3
  have J5l := J5.lt
  have J60 := J6.c0
  have J61 := J6.c1
  have J62 := J6.c2
  have J63 := J6.c3
  have J6l := J6.lt
  have lb := B.size
  go_wp2_with fail
  refine (XP.out _).mono ?_
  rintro e w9 ⟨rfl, z⟩
  clear JX0 JX1 JX2 JX3 JXl JY0 JY1 JY2 JY3 JYl J10 J11 J12 J13 J1l J20 J21 J22 J23 J2l J30 J31 J32 J33 J3l J40 J41 J42 J43 J4l J50 J51 J52 J53 J5l J60 J61 J62 J63 J6l lb
  replace JX := JX.below z
  replace JY := JY.below z
  replace J1 := J1.below z
  replace J2 := J2.below z
  replace J3 := J3.below z
  replace J4 := J4.below z
  replace J5 := J5.below z
  replace J6 := J6.below z
  replace B := below_next B z
  clear z
  have JX0 := JX.c0
  have JX1 := JX.c1
  have JX2 := JX.c2
  have JX3 := JX.c3
  have JXl := JX.lt
  have JY0 := JY.c0
  have JY1 := JY.c1
  have JY2 := JY.c2
  have JY3 := JY.c3
  have JYl := JY.lt
  have J10 := J1.c0
  have J11 := J1.c1
  have J12 := J1.c2
  have J13 := J1.c3
  have J1l := J1.lt
  have J20 := J2.c0
  have J21 := J2.c1
  have J22 := J2.c2
  have J23 := J2.c3
  have J2l := J2.lt
  have J30 := J3.c0
  have J31 := J3.c1
  have J32 := J3.c2
  have J33 := J3.c3
  have J3l := J3.lt
  have J40 := J4.c0
  have J41 := J4.c1
  have J42 := J4.c2
  have J43 := J4.c3
  have J4l := J4.lt
  have J50 := J5.c0
  have J51 := J5.c1
  have J52 := J5.c2
  have J53 := J5.c3
  have J5l := J5.lt
  have J60 := J6.c0
  have J61 := J6.c1
  have J62 := J6.c2
  have J63 := J6.c3
  have J6l := J6.lt
  have lb := B.size
  go_wp2_with fail
  refine (XA.out _).mono ?_
  rintro e w10 ⟨rfl, z⟩
  clear JX0 JX1 JX2 JX3 JXl JY0 JY1 JY2 JY3 JYl J10 J11 J12 J13 J1l J20 J21 J22 J23 J2l J30 J31 J32 J33 J3l J40 J41 J42 J43 J4l J50 J51 J52 J53 J5l J60 J61 J62 J63 J6l lb
  replace JX := JX.below z
  replace JY := JY.below z
  replace J1 := J1.below z
  replace J2 := J2.below z
  replace J3 := J3.below z
  replace J4 := J4.below z
  replace J5 := J5.below z
  replace J6 := J6.below z
  replace B := below_next B z
  clear z
  have JX0 := JX.c0
  have JX1 := JX.c1
  have JX2 := JX.c2
  have JX3 := JX.c3
  have JXl := JX.lt
  have JY0 := JY.c0
  have JY1 := JY.c1
  have JY2 := JY.c2
  have JY3 := JY.c3
  have JYl := JY.lt
  have J10 := J1.c0
  have J11 := J1.c1
  have J12 := J1.c2
  have J13 := J1.c3
  have J1l := J1.lt
  have J20 := J2.c0
  have J21 := J2.c1
  have J22 := J2.c2
  have J23 := J2.c3
  have J2l := J2.lt
  have J30 := J3.c0
  have J31 := J3.c1
  have J32 := J3.c2
  have J33 := J3.c3
  have J3l := J3.lt
  have J40 := J4.c0
  have J41 := J4.c1
  have J42 := J4.c2
  have J43 := J4.c3
  have J4l := J4.lt
  have J50 := J5.c0
  have J51 := J5.c1
  have J52 := J5.c2
  have J53 := J5.c3
  have J5l := J5.lt
  have J60 := J6.c0
  have J61 := J6.c1
  have J62 := J6.c2
  have J63 := J6.c3
  have J6l := J6.lt
  have lb := B.size
  go_wp2_with fail
  refine (XB.out _).mono ?_
  rintro e w11 ⟨rfl, z⟩
  clear JX0 JX1 JX2 JX3 JXl JY0 JY1 JY2 JY3 JYl J10 J11 J12 J13 J1l J20 J21 J22 J23 J2l J30 J31 J32 J33 J3l J40 J41 J42 J43 J4l J50 J51 J52 J53 J5l J60 J61 J62 J63 J6l lb
  replace JX := JX.below z
  replace JY := JY.below z
  replace J1 := J1.below z
  replace J2 := J2.below z
  replace J3 := J3.below z
  replace J4 := J4.below z
  replace J5 := J5.below z
  replace J6 := J6.below z
  replace B := below_next B z
  clear z
  have JX0 := JX.c0
  have JX1 := JX.c1
  have JX2 := JX.c2
  have JX3 := JX.c3
  have JXl := JX.lt
  have JY0 := JY.c0
  have JY1 := JY.c1
  have JY2 := JY.c2
  have JY3 := JY.c3
  have JYl := JY.lt
  have J10 := J1.c0
  have J11 := J1.c1
  have J12 := J1.c2
  have J13 := J1.c3
  have J1l := J1.lt
  have J20 := J2.c0
  have J21 := J2.c1
  have J22 := J2.c2
  have J23 := J2.c3
  have J2l := J2.lt
  have J30 := J3.c0
  have J31 := J3.c1
  have J32 := J3.c2
  have J33 := J3.c3
  have J3l := J3.lt
  have J40 := J4.c0
  have J41 := J4.c1
  have J42 := J4.c2
  have J43 := J4.c3
  have J4l := J4.lt
  have J50 := J5.c0
  have J51 := J5.c1
  have J52 := J5.c2
  have J53 := J5.c3
  have J5l := J5.lt
  have J60 := J6.c0
  have J61 := J6.c1
  have J62 := J6.c2
  have J63 := J6.c3
  have J6l := J6.lt
  have lb := B.size
  go_wp2_with fail
  refine (XC.out _).mono ?_
  rintro e w12 ⟨rfl, z⟩
  clear JX0 JX1 JX2 JX3 JXl JY0 JY1 JY2 JY3 JYl J10 J11 J12 J13 J1l J20 J21 J22 J23 J2l J30 J31 J32 J33 J3l J40 J41 J42 J43 J4l J50 J51 J52 J53 J5l J60 J61 J62 J63 J6l lb
  replace JX := JX.below z
  replace JY := JY.below z
  replace J1 := J1.below z
  replace J2 := J2.below z
  replace J3 := J3.below z
  replace J4 := J4.below z
  replace J5 := J5.below z
  replace J6 := J6.below z
  replace B := below_next B z
  clear z
  have JX0 := JX.c0
  have JX1 := JX.c1
  have JX2 := JX.c2
  have JX3 := JX.c3
  have JXl := JX.lt
  have JY0 := JY.c0
  have JY1 := JY.c1
  have JY2 := JY.c2
  have JY3 := JY.c3
  have JYl := JY.lt
  have J10 := J1.c0
  have J11 := J1.c1
  have J12 := J1.c2
  have J13 := J1.c3
  have J1l := J1.lt
  have J20 := J2.c0
  have J21 := J2.c1
  have J22 := J2.c2
  have J23 := J2.c3
  have J2l := J2.lt
  have J30 := J3.c0
  have J31 := J3.c1
  have J32 := J3.c2
  have J33 := J3.c3
  have J3l := J3.lt
  have J40 := J4.c0
  have J41 := J4.c1
  have J42 := J4.c2
  have J43 := J4.c3
  have J4l := J4.lt
  have J50 := J5.c0
  have J51 := J5.c1
  have J52 := J5.c2
  have J53 := J5.c3
  have J5l := J5.lt
  have J60 := J6.c0
  have J61 := J6.c1
  have J62 := J6.c2
  have J63 := J6.c3
  have J6l := J6.lt
  have lb := B.size
  go_wp2_with fail
  refine (XD.out _).mono ?_
  rintro e w13 ⟨rfl, z⟩
  clear JX0 JX1 JX2 JX3 JXl JY0 JY1 JY2 JY3 JYl J10 J11 J12 J13 J1l J20 J21 J22 J23 J2l J30 J31 J32 J33 J3l J40 J41 J42 J43 J4l J50 J51 J52 J53 J5l J60 J61 J62 J63 J6l lb
  replace JX := JX.below z
  replace JY := JY.below z
  replace J1 := J1.below z
  replace J2 := J2.below z
  replace J3 := J3.below z
  replace J4 := J4.below z
  replace J5 := J5.below z
  replace J6 := J6.below z
  replace B := below_next B z
  clear z
  have JX0 := JX.c0
  have JX1 := JX.c1
  have JX2 := JX.c2
  have JX3 := JX.c3
  have JXl := JX.lt
  have JY0 := JY.c0
  have JY1 := JY.c1
  have JY2 := JY.c2
  have JY3 := JY.c3
  have JYl := JY.lt
  have J10 := J1.c0
  have J11 := J1.c1
  have J12 := J1.c2
  have J13 := J1.c3
  have J1l := J1.lt
  have J20 := J2.c0
  have J21 := J2.c1
  have J22 := J2.c2
  have J23 := J2.c3
  have J2l := J2.lt
  have J30 := J3.c0
  have J31 := J3.c1
  have J32 := J3.c2
  have J33 := J3.c3
  have J3l := J3.lt
  have J40 := J4.c0
  have J41 := J4.c1
  have J42 := J4.c2
  have J43 := J4.c3
  have J4l := J4.lt
  have J50 := J5.c0
  have J51 := J5.c1
  have J52 := J5.c2
  have J53 := J5.c3
  have J5l := J5.lt
  have J60 := J6.c0
  have J61 := J6.c1
  have J62 := J6.c2
  have J63 := J6.c3
  have J6l := J6.lt
  have lb := B.size
  go_wp2_with fail
  refine wp_region_held_drew (S := (fun w' : World => Below w13.heap.size w13 w')) (by kernel_rfl) ?_ (fun hHeld => ?_)
  · (try dsimp only); first | (with_reducible exact below_dr _) | (with_reducible exact Below.refl _ _) | exact below_dr _
  have hBk := below_dr w13
  refine wpAnyH_ready (rs := [0]) (by kernel_rfl) (by simp) ?_
  refine AllReadyH.cons rfl (fun K hK => ?_) AllReadyH.nil
  go_simp
  go_at_call 9
  refine (XW.out _).mono ?_
  rintro e wz1_1 ⟨rfl, bkz1_1⟩
  have hBn := below_next hBk bkz1_1
  clear hBk bkz1_1
  have hBk := hBn
  clear hBn
  try go_simp
  refine hK.out _ _ ?_ (fun hHeld => ?_)
  · (try dsimp only); exact hBk
  clear hK K
  (try simp only [Act.put, List.setIfInBounds_toArray, List.set_cons_zero, List.set_cons_succ])
  refine tq 1 rfl (fun _ hS => by go_simp; try with_reducible rfl) ?_
  try simp only [s1, s2, s3]
  refine tq 2 rfl (fun _ hS => by have c0 := cn hS JX0; have c1 := cn hS JX1; have c2 := cn hS JX2; have c3 := cn hS JX3; go_simp; try with_reducible rfl) ?_
  try simp only [s1, s2, s3]
  refine tq 4 rfl (fun _ hS => by have c0 := cn hS JX0; have c1 := cn hS JX1; have c2 := cn hS JX2; have c3 := cn hS JX3; go_simp; try with_reducible rfl) ?_
  try simp only [s1, s2, s3]
  refine wpAnyH_ready (rs := [3]) (by kernel_rfl) (by simp) ?_
  refine AllReadyH.cons rfl (fun K hK => ?_) AllReadyH.nil
  go_simp
  go_at_call 22
  refine (YA.out _).mono ?_
  rintro e wz1_2 ⟨rfl, bkz1_2⟩
  have hBn := below_next hBk bkz1_2
  clear hBk bkz1_2
  have hBk := hBn
  clear hBn
  try go_simp
  refine hK.out _ _ ?_ (fun hHeld => ?_)
  · (try dsimp only); exact hBk
  clear hK K
  (try simp only [Act.put, List.setIfInBounds_toArray, List.set_cons_zero, List.set_cons_succ])
  refine wpAnyH_ready (rs := [5]) (by kernel_rfl) (by simp) ?_
  refine AllReadyH.cons rfl (fun K hK => ?_) AllReadyH.nil
  go_simp
  go_at_call 23
  refine (YB.out _).mono ?_
  rintro e wz1_3 ⟨rfl, bkz1_3⟩
  have hBn := below_next hBk bkz1_3
  clear hBk bkz1_3
  have hBk := hBn
  clear hBn
  try go_simp
  refine hK.out _ _ ?_ (fun hHeld => ?_)
  · (try dsimp only); exact hBk
  clear hK K
  (try simp only [Act.put, List.setIfInBounds_toArray, List.set_cons_zero, List.set_cons_succ])
  refine tq 6 rfl (fun _ hS => by go_simp; try with_reducible rfl) ?_
  try simp only [s1, s2, s3]
  refine tq 7 rfl (fun _ hS => by go_simp; try with_reducible rfl) ?_
  try simp only [s1, s2, s3]
  refine tq 8 rfl (fun _ hS => by go_simp; try with_reducible rfl) ?_
  try simp only [s1, s2, s3]
  refine tq 9 rfl (fun _ hS => by have c0 := cn hS JX0; have c1 := cn hS JX1; have c2 := cn hS JX2; have c3 := cn hS JX3; go_simp; try with_reducible rfl) ?_
  try simp only [s1, s2, s3]
  refine tq 10 rfl (fun _ hS => by go_simp; try with_reducible rfl) ?_
  try simp only [s1, s2, s3]
  refine tq 12 rfl (fun _ hS => by have c0 := cn hS JX0; have c1 := cn hS JX1; have c2 := cn hS JX2; have c3 := cn hS JX3; go_simp; try with_reducible rfl) ?_
  try simp only [s1, s2, s3]
  refine tq 13 rfl (fun _ hS => by go_simp; try with_reducible rfl) ?_
  try simp only [s1, s2, s3]
  refine wpAnyH_ready (rs := [11]) (by kernel_rfl) (by simp) ?_
  refine AllReadyH.cons rfl (fun K hK => ?_) AllReadyH.nil
  go_simp
  go_at_call 24
  refine (YC.out _).mono ?_
  rintro e wz1_4 ⟨rfl, bkz1_4⟩
  have hBn := below_next hBk bkz1_4
  clear hBk bkz1_4
  have hBk := hBn
  clear hBn
  try go_simp
  refine hK.out _ _ ?_ (fun hHeld => ?_)
  · (try dsimp only); exact hBk
  clear hK K
  (try simp only [Act.put, List.setIfInBounds_toArray, List.set_cons_zero, List.set_cons_succ])
  refine wpAnyH_ready (rs := [14]) (by kernel_rfl) (by simp) ?_
  refine AllReadyH.cons rfl (fun K hK => ?_) AllReadyH.nil
  go_simp
  go_at_call 25
  refine (YD.out _).mono ?_
  rintro e wz1_5 ⟨rfl, bkz1_5⟩
  have hBn := below_next hBk bkz1_5
  clear hBk bkz1_5
  have hBk := hBn
  clear hBn
  try go_simp
  refine hK.out _ _ ?_ (fun hHeld => ?_)
  · (try dsimp only); exact hBk
  clear hK K
  (try simp only [Act.put, List.setIfInBounds_toArray, List.set_cons_zero, List.set_cons_succ])
  refine tq 15 rfl (fun _ hS => by go_simp; try with_reducible rfl) ?_
  try simp only [s1, s2, s3]
  refine tq 16 rfl (fun _ hS => by go_simp; try with_reducible rfl) ?_
  try simp only [s1, s2, s3]
  refine tq 17 rfl (fun _ hS => by go_simp; try with_reducible rfl) ?_
  try simp only [s1, s2, s3]
  refine tq 18 rfl (fun _ hS => by have c0 := cn hS JX0; have c1 := cn hS JX1; have c2 := cn hS JX2; have c3 := cn hS JX3; go_simp; try with_reducible rfl) ?_
  try simp only [s1, s2, s3]
  refine tq 19 rfl (fun _ hS => by have c0 := cn hS JY0; have c1 := cn hS JY1; have c2 := cn hS JY2; have c3 := cn hS JY3; go_simp; try with_reducible rfl) ?_
  try simp only [s1, s2, s3]
  refine tq 21 rfl (fun _ hS => by have c0 := cn hS JX0; have c1 := cn hS JX1; have c2 := cn hS JX2; have c3 := cn hS JX3; go_simp; try with_reducible rfl) ?_
  try simp only [s1, s2, s3]
  refine tq 22 rfl (fun _ hS => by have c0 := cn hS JY0; have c1 := cn hS JY1; have c2 := cn hS JY2; have c3 := cn hS JY3; go_simp; try with_reducible rfl) ?_
  try simp only [s1, s2, s3]
  refine wpAnyH_ready (rs := [20]) (by kernel_rfl) (by simp) ?_
  refine AllReadyH.cons rfl (fun K hK => ?_) AllReadyH.nil
  go_simp
  go_at_call 26
  refine (YE.out _).mono ?_
  rintro e wz1_6 ⟨rfl, bkz1_6⟩
  have hBn := below_next hBk bkz1_6
  clear hBk bkz1_6
  have hBk := hBn
  clear hBn
  try go_simp
  refine hK.out _ _ ?_ (fun hHeld => ?_)
  · (try dsimp only); exact hBk
  clear hK K
  (try simp only [Act.put, List.setIfInBounds_toArray, List.set_cons_zero, List.set_cons_succ])
  refine wpAnyH_ready (rs := [23]) (by kernel_rfl) (by simp) ?_
  refine AllReadyH.cons rfl (fun K hK => ?_) AllReadyH.nil
  go_simp
  go_at_call 27
  refine (YF.out _).mono ?_
  rintro e wz1_7 ⟨rfl, bkz1_7⟩
  have hBn := below_next hBk bkz1_7
  clear hBk bkz1_7
  have hBk := hBn
  clear hBn
  try go_simp
  refine hK.out _ _ ?_ (fun hHeld => ?_)
  · (try dsimp only); exact hBk
  clear hK K
  (try simp only [Act.put, List.setIfInBounds_toArray, List.set_cons_zero, List.set_cons_succ])
  refine tq 24 rfl (fun _ hS => by go_simp; try with_reducible rfl) ?_
  try simp only [s1, s2, s3]
  refine tq 25 rfl (fun _ hS => by go_simp; try with_reducible rfl) ?_
  try simp only [s1, s2, s3]
  refine tq 26 rfl (fun _ hS => by go_simp; try with_reducible rfl) ?_
  try simp only [s1, s2, s3]
  refine wpAnyH_done (by kernel_rfl) ?_ _
  
  go_wp2
  go_ret
  exact ⟨rfl, below_next B hBk⟩
end Go.Proofs.YtodmikjpmcabiaaGreat
