import Derived.Test.YtodmikjpmcabiaaGreatZScI
import Derived.Deep.RegionLaw
namespace Go.Proofs.YtodmikjpmcabiaaGreat
set_option linter.unusedSimpArgs false
set_option linter.unusedVariables false
set_option maxRecDepth 100000
open Go.ChangeShapes Go.WideShapes Go.ChangeAt Go.RowKit

def meetOk (a b : Sc) : Bool := meetB a.1 b.1 && (mayS (meetP a.2 b.2) && (mayX a && mayX b))
def meetO (a b : Sc) : Option Sc := if meetOk a b = true then settle (meetT a.1 b.1, meetP a.2 b.2) else none
set_option maxHeartbeats 8000000 in
theorem cMeet_any (a b : Sc) (w : World) : Calls Tryz.prog 14 #[sv a, sv b] w fun e w' => e = .returned (.tuple #[sv (optS (meetO a b)), .bool (meetO a b).isSome]) ∧ Below w.heap.size w w' := by
  unfold meetO meetOk
  have X1 := fun W => tMeet_any a.1 b.1 W
  have X2 := fun W => sMeet_any a.2 b.2 W
  have X3 := fun W => cMay_any a W
  have X4 := fun W => cMay_any b W
  cases h1 : meetB a.1 b.1
  · rw [Bool.false_and, if_neg (by decide)]
    rw [h1] at X1
    clear X3 X4
    generalize (if false = true then meetT a.1 b.1 else t0) = T at *
    generalize meetS a.2 b.2 = U at *
    generalize mayS (meetP a.2 b.2) = k2 at *
    clear h1
    obtain ⟨⟨v, m⟩, l, h⟩ := a
    obtain ⟨⟨v', m'⟩, l', h'⟩ := b
    unfold sv
    unfold tv at X1 X2
    dsimp only at X1 X2 ⊢
    replace X1 := hid X1
    replace X2 := hid X2
    go_enter Tryz.func14, Tryz.ntmps14
    go_wp2_with fail
    refine (X1.out _).mono ?_
    rintro e w1 ⟨rfl, z⟩
    have JX : SC w1 (w.heap.size) (((v, m), l, h)) := (((SC.new rfl).alloc _).alloc _).below z
    have JY : SC w1 (w.heap.size + 1) (((v', m'), l', h')) := ((SC.new (by simp)).alloc _).below z
    have JR : SC w1 (w.heap.size + 1 + 1) (sc0) := (SC.new (by simp)).below z
    have B := below_next (bel_alloc (bel_alloc (bel_alloc (Below.refl w.heap.size w)))) z
    clear z
    obtain ⟨JXl, JX0, JX1, JX2, JX3⟩ := JX.k
    obtain ⟨JYl, JY0, JY1, JY2, JY3⟩ := JY.k
    obtain ⟨JRl, JR0, JR1, JR2, JR3, JRf0, JRf1, JRf2, JRf3⟩ := id JR
    have lb := B.size
    go_wp2_with fail
    refine (X2.out _).mono ?_
    rintro e w2 ⟨rfl, z⟩
    clear JX0 JX1 JX2 JX3 JXl JY0 JY1 JY2 JY3 JYl JR0 JR1 JR2 JR3 JRl JRf0 JRf1 JRf2 JRf3 lb
    have g2JX : w.heap.size < w1.heap.size := JX.lt
    have g2JY : w.heap.size + 1 < w1.heap.size := JY.lt
    have g2JR : w.heap.size + 1 + 1 < w1.heap.size := JR.lt
    have g2B := B.size
    replace JX := (JX.alloc _).below z
    replace JY := (JY.alloc _).below z
    replace JR := (JR.alloc _).below z
    have JT : BC w2 (w1.heap.size) (T) := (BC.new rfl).below z
    replace B := below_next (bel_alloc B) z
    clear z
    obtain ⟨JXl, JX0, JX1, JX2, JX3⟩ := JX.k
    obtain ⟨JYl, JY0, JY1, JY2, JY3⟩ := JY.k
    obtain ⟨JRl, JR0, JR1, JR2, JR3, JRf0, JRf1, JRf2, JRf3⟩ := id JR
    have JT0 := JT.c0
    have JT1 := JT.c1
    have JTl := JT.lt
    have lb := B.size
    go_wp2
    exact bodyPost_ret (v := .tuple #[sv sc0, .bool false]) (by simp [results, Tryz.results14, go_sem, JX0, JX1, JX2, JX3, JXl, JY0, JY1, JY2, JY3, JYl, JR0, JR1, JR2, JR3, JRl, JT0, JT1, JTl]; try first | rfl | exact ⟨rfl, rfl⟩) rfl ⟨rfl, bel_alloc (putS_below sc0 B (by omega))⟩
  rw [Bool.true_and]
  cases h2 : mayS (meetP a.2 b.2)
  · rw [Bool.false_and, if_neg (by decide)]
    rw [h1] at X1
    rw [h2] at X2
    clear X3 X4
    generalize (if true = true then meetT a.1 b.1 else t0) = T at *
    generalize meetS a.2 b.2 = U at *
    clear h1 h2
    obtain ⟨⟨v, m⟩, l, h⟩ := a
    obtain ⟨⟨v', m'⟩, l', h'⟩ := b
    unfold sv
    unfold tv at X1 X2
    dsimp only at X1 X2 ⊢
    replace X1 := hid X1
    replace X2 := hid X2
    go_enter Tryz.func14, Tryz.ntmps14
    go_wp2_with fail
    refine (X1.out _).mono ?_
    rintro e w1 ⟨rfl, z⟩
    have JX : SC w1 (w.heap.size) (((v, m), l, h)) := (((SC.new rfl).alloc _).alloc _).below z
    have JY : SC w1 (w.heap.size + 1) (((v', m'), l', h')) := ((SC.new (by simp)).alloc _).below z
    have JR : SC w1 (w.heap.size + 1 + 1) (sc0) := (SC.new (by simp)).below z
    have B := below_next (bel_alloc (bel_alloc (bel_alloc (Below.refl w.heap.size w)))) z
    clear z
    obtain ⟨JXl, JX0, JX1, JX2, JX3⟩ := JX.k
    obtain ⟨JYl, JY0, JY1, JY2, JY3⟩ := JY.k
    obtain ⟨JRl, JR0, JR1, JR2, JR3, JRf0, JRf1, JRf2, JRf3⟩ := id JR
    have lb := B.size
    go_wp2_with fail
    refine (X2.out _).mono ?_
    rintro e w2 ⟨rfl, z⟩
    clear JX0 JX1 JX2 JX3 JXl JY0 JY1 JY2 JY3 JYl JR0 JR1 JR2 JR3 JRl JRf0 JRf1 JRf2 JRf3 lb
    have g2JX : w.heap.size < w1.heap.size := JX.lt
    have g2JY : w.heap.size + 1 < w1.heap.size := JY.lt
    have g2JR : w.heap.size + 1 + 1 < w1.heap.size := JR.lt
    have g2B := B.size
    replace JX := (JX.alloc _).below z
    replace JY := (JY.alloc _).below z
    replace JR := (JR.alloc _).below z
    have JT : BC w2 (w1.heap.size) (T) := (BC.new rfl).below z
    replace B := below_next (bel_alloc B) z
    clear z
    obtain ⟨JXl, JX0, JX1, JX2, JX3⟩ := JX.k
    obtain ⟨JYl, JY0, JY1, JY2, JY3⟩ := JY.k
    obtain ⟨JRl, JR0, JR1, JR2, JR3, JRf0, JRf1, JRf2, JRf3⟩ := id JR
    have JT0 := JT.c0
    have JT1 := JT.c1
    have JTl := JT.lt
    have lb := B.size
    go_wp2
    exact bodyPost_ret (v := .tuple #[sv sc0, .bool false]) (by simp [results, Tryz.results14, go_sem, JX0, JX1, JX2, JX3, JXl, JY0, JY1, JY2, JY3, JYl, JR0, JR1, JR2, JR3, JRl, JT0, JT1, JTl]; try first | rfl | exact ⟨rfl, rfl⟩) rfl ⟨rfl, bel_alloc (putS_below sc0 B (by omega))⟩
  rw [Bool.true_and]
  rw [h1] at X1
  rw [h2] at X2
  generalize hT : (if true = true then meetT a.1 b.1 else t0) = T at *
  generalize hU : meetS a.2 b.2 = U at *
  have X5' : ∀ W, Calls Tryz.prog 10 #[tv T, tv U] W fun e w' => e = .returned (.tuple #[sv (optS (settle (meetT a.1 b.1, meetP a.2 b.2))), .bool (settle (meetT a.1 b.1, meetP a.2 b.2)).isSome]) ∧ Below W.heap.size W w' := by
    rw [← hT, ← hU, if_pos rfl, show meetS a.2 b.2 = meetP a.2 b.2 from if_pos h2]
    exact fun W => cSettle_any _ _ W
  clear h1 h2 hT hU
  have X5 := X5'
  clear X5'
  cases h3 : mayX a
  · rw [Bool.false_and, if_neg (by decide)]
    rw [h3] at X3
    clear X4 X5 h3
    obtain ⟨⟨v, m⟩, l, h⟩ := a
    obtain ⟨⟨v', m'⟩, l', h'⟩ := b
    unfold sv at X3 ⊢
    unfold tv at X1 X2
    dsimp only at X1 X2 X3 ⊢
    replace X1 := hid X1
    replace X2 := hid X2
    replace X3 := hid X3
    go_enter Tryz.func14, Tryz.ntmps14
    go_wp2_with fail
    refine (X1.out _).mono ?_
    rintro e w1 ⟨rfl, z⟩
    have JX : SC w1 (w.heap.size) (((v, m), l, h)) := (((SC.new rfl).alloc _).alloc _).below z
    have JY : SC w1 (w.heap.size + 1) (((v', m'), l', h')) := ((SC.new (by simp)).alloc _).below z
    have JR : SC w1 (w.heap.size + 1 + 1) (sc0) := (SC.new (by simp)).below z
    have B := below_next (bel_alloc (bel_alloc (bel_alloc (Below.refl w.heap.size w)))) z
    clear z
    obtain ⟨JXl, JX0, JX1, JX2, JX3⟩ := JX.k
    obtain ⟨JYl, JY0, JY1, JY2, JY3⟩ := JY.k
    obtain ⟨JRl, JR0, JR1, JR2, JR3, JRf0, JRf1, JRf2, JRf3⟩ := id JR
    have lb := B.size
    go_wp2_with fail
    refine (X2.out _).mono ?_
    rintro e w2 ⟨rfl, z⟩
    clear JX0 JX1 JX2 JX3 JXl JY0 JY1 JY2 JY3 JYl JR0 JR1 JR2 JR3 JRl JRf0 JRf1 JRf2 JRf3 lb
    have g2JX : w.heap.size < w1.heap.size := JX.lt
    have g2JY : w.heap.size + 1 < w1.heap.size := JY.lt
    have g2JR : w.heap.size + 1 + 1 < w1.heap.size := JR.lt
    have g2B := B.size
    replace JX := (JX.alloc _).below z
    replace JY := (JY.alloc _).below z
    replace JR := (JR.alloc _).below z
    have JT : BC w2 (w1.heap.size) (T) := (BC.new rfl).below z
    replace B := below_next (bel_alloc B) z
    clear z
    obtain ⟨JXl, JX0, JX1, JX2, JX3⟩ := JX.k
    obtain ⟨JYl, JY0, JY1, JY2, JY3⟩ := JY.k
    obtain ⟨JRl, JR0, JR1, JR2, JR3, JRf0, JRf1, JRf2, JRf3⟩ := id JR
    have JT0 := JT.c0
    have JT1 := JT.c1
    have JTl := JT.lt
    have lb := B.size
    go_wp2_with fail
    refine (X3.out _).mono ?_
    rintro e w3 ⟨rfl, z⟩
    clear JX0 JX1 JX2 JX3 JXl JY0 JY1 JY2 JY3 JYl JR0 JR1 JR2 JR3 JRl JRf0 JRf1 JRf2 JRf3 JT0 JT1 JTl lb
    have g3JX : w.heap.size < w2.heap.size := JX.lt
    have g3JY : w.heap.size + 1 < w2.heap.size := JY.lt
    have g3JR : w.heap.size + 1 + 1 < w2.heap.size := JR.lt
    have g3JT : w1.heap.size < w2.heap.size := JT.lt
    have g3B := B.size
    replace JX := (JX.alloc _).below z
    replace JY := (JY.alloc _).below z
    replace JR := (JR.alloc _).below z
    replace JT := (JT.alloc _).below z
    have JU : BC w3 (w2.heap.size) (U) := (BC.new rfl).below z
    replace B := below_next (bel_alloc B) z
    clear z
    obtain ⟨JXl, JX0, JX1, JX2, JX3⟩ := JX.k
    obtain ⟨JYl, JY0, JY1, JY2, JY3⟩ := JY.k
    obtain ⟨JRl, JR0, JR1, JR2, JR3, JRf0, JRf1, JRf2, JRf3⟩ := id JR
    have JT0 := JT.c0
    have JT1 := JT.c1
    have JTl := JT.lt
    have JU0 := JU.c0
    have JU1 := JU.c1
    have JUl := JU.lt
    have lb := B.size
    go_wp2
    exact bodyPost_ret (v := .tuple #[sv sc0, .bool false]) (by simp [results, Tryz.results14, go_sem, JX0, JX1, JX2, JX3, JXl, JY0, JY1, JY2, JY3, JYl, JR0, JR1, JR2, JR3, JRl, JT0, JT1, JTl, JU0, JU1, JUl]; try first | rfl | exact ⟨rfl, rfl⟩) rfl ⟨rfl, putS_below sc0 B (by omega)⟩
  rw [Bool.true_and]
  cases h4 : mayX b
  · rw [if_neg (by decide)]
    rw [h3] at X3
    rw [h4] at X4
    clear X5 h3 h4
    obtain ⟨⟨v, m⟩, l, h⟩ := a
    obtain ⟨⟨v', m'⟩, l', h'⟩ := b
    unfold sv at X3 X4 ⊢
    unfold tv at X1 X2
    dsimp only at X1 X2 X3 X4 ⊢
    replace X1 := hid X1
    replace X2 := hid X2
    replace X3 := hid X3
    replace X4 := hid X4
    go_enter Tryz.func14, Tryz.ntmps14
    go_wp2_with fail
    refine (X1.out _).mono ?_
    rintro e w1 ⟨rfl, z⟩
    have JX : SC w1 (w.heap.size) (((v, m), l, h)) := (((SC.new rfl).alloc _).alloc _).below z
    have JY : SC w1 (w.heap.size + 1) (((v', m'), l', h')) := ((SC.new (by simp)).alloc _).below z
    have JR : SC w1 (w.heap.size + 1 + 1) (sc0) := (SC.new (by simp)).below z
    have B := below_next (bel_alloc (bel_alloc (bel_alloc (Below.refl w.heap.size w)))) z
    clear z
    obtain ⟨JXl, JX0, JX1, JX2, JX3⟩ := JX.k
    obtain ⟨JYl, JY0, JY1, JY2, JY3⟩ := JY.k
    obtain ⟨JRl, JR0, JR1, JR2, JR3, JRf0, JRf1, JRf2, JRf3⟩ := id JR
    have lb := B.size
    go_wp2_with fail
    refine (X2.out _).mono ?_
    rintro e w2 ⟨rfl, z⟩
    clear JX0 JX1 JX2 JX3 JXl JY0 JY1 JY2 JY3 JYl JR0 JR1 JR2 JR3 JRl JRf0 JRf1 JRf2 JRf3 lb
    have g2JX : w.heap.size < w1.heap.size := JX.lt
    have g2JY : w.heap.size + 1 < w1.heap.size := JY.lt
    have g2JR : w.heap.size + 1 + 1 < w1.heap.size := JR.lt
    have g2B := B.size
    replace JX := (JX.alloc _).below z
    replace JY := (JY.alloc _).below z
    replace JR := (JR.alloc _).below z
    have JT : BC w2 (w1.heap.size) (T) := (BC.new rfl).below z
    replace B := below_next (bel_alloc B) z
    clear z
    obtain ⟨JXl, JX0, JX1, JX2, JX3⟩ := JX.k
    obtain ⟨JYl, JY0, JY1, JY2, JY3⟩ := JY.k
    obtain ⟨JRl, JR0, JR1, JR2, JR3, JRf0, JRf1, JRf2, JRf3⟩ := id JR
    have JT0 := JT.c0
    have JT1 := JT.c1
    have JTl := JT.lt
    have lb := B.size
    go_wp2_with fail
    refine (X3.out _).mono ?_
    rintro e w3 ⟨rfl, z⟩
    clear JX0 JX1 JX2 JX3 JXl JY0 JY1 JY2 JY3 JYl JR0 JR1 JR2 JR3 JRl JRf0 JRf1 JRf2 JRf3 JT0 JT1 JTl lb
    have g3JX : w.heap.size < w2.heap.size := JX.lt
    have g3JY : w.heap.size + 1 < w2.heap.size := JY.lt
    have g3JR : w.heap.size + 1 + 1 < w2.heap.size := JR.lt
    have g3JT : w1.heap.size < w2.heap.size := JT.lt
    have g3B := B.size
    replace JX := (JX.alloc _).below z
    replace JY := (JY.alloc _).below z
    replace JR := (JR.alloc _).below z
    replace JT := (JT.alloc _).below z
    have JU : BC w3 (w2.heap.size) (U) := (BC.new rfl).below z
    replace B := below_next (bel_alloc B) z
    clear z
    obtain ⟨JXl, JX0, JX1, JX2, JX3⟩ := JX.k
    obtain ⟨JYl, JY0, JY1, JY2, JY3⟩ := JY.k
    obtain ⟨JRl, JR0, JR1, JR2, JR3, JRf0, JRf1, JRf2, JRf3⟩ := id JR
    have JT0 := JT.c0
    have JT1 := JT.c1
    have JTl := JT.lt
    have JU0 := JU.c0
    have JU1 := JU.c1
    have JUl := JU.lt
    have lb := B.size
    go_wp2_with fail
    refine (X4.out _).mono ?_
    rintro e w4 ⟨rfl, z⟩
    clear JX0 JX1 JX2 JX3 JXl JY0 JY1 JY2 JY3 JYl JR0 JR1 JR2 JR3 JRl JRf0 JRf1 JRf2 JRf3 JT0 JT1 JTl JU0 JU1 JUl lb
    replace JX := JX.below z
    replace JY := JY.below z
    replace JR := JR.below z
    replace JT := JT.below z
    replace JU := JU.below z
    replace B := below_next B z
    clear z
    obtain ⟨JXl, JX0, JX1, JX2, JX3⟩ := JX.k
    obtain ⟨JYl, JY0, JY1, JY2, JY3⟩ := JY.k
    obtain ⟨JRl, JR0, JR1, JR2, JR3, JRf0, JRf1, JRf2, JRf3⟩ := id JR
    have JT0 := JT.c0
    have JT1 := JT.c1
    have JTl := JT.lt
    have JU0 := JU.c0
    have JU1 := JU.c1
    have JUl := JU.lt
    have lb := B.size
    go_wp2
    exact bodyPost_ret (v := .tuple #[sv sc0, .bool false]) (by simp [results, Tryz.results14, go_sem, JX0, JX1, JX2, JX3, JXl, JY0, JY1, JY2, JY3, JYl, JR0, JR1, JR2, JR3, JRl, JT0, JT1, JTl, JU0, JU1, JUl]; try first | rfl | exact ⟨rfl, rfl⟩) rfl ⟨rfl, putS_below sc0 B (by omega)⟩
  rw [if_pos rfl]
  rw [h3] at X3
  rw [h4] at X4
  clear h3 h4
  generalize (settle (meetT a.1 b.1, meetP a.2 b.2)).isSome = K at *
  generalize optS (settle (meetT a.1 b.1, meetP a.2 b.2)) = Z at *
  obtain ⟨⟨v, m⟩, l, h⟩ := a
  obtain ⟨⟨v', m'⟩, l', h'⟩ := b
  unfold sv at X3 X4 X5 ⊢
  unfold tv at X1 X2 X5
  dsimp only at X1 X2 X3 X4 X5 ⊢
  replace X1 := hid X1
  replace X2 := hid X2
  replace X3 := hid X3
  replace X4 := hid X4
  replace X5 := hid X5
  go_enter Tryz.func14, Tryz.ntmps14
  go_wp2_with fail
  refine (X1.out _).mono ?_
  rintro e w1 ⟨rfl, z⟩
  have JX : SC w1 (w.heap.size) (((v, m), l, h)) := (((SC.new rfl).alloc _).alloc _).below z
  have JY : SC w1 (w.heap.size + 1) (((v', m'), l', h')) := ((SC.new (by simp)).alloc _).below z
  have JR : SC w1 (w.heap.size + 1 + 1) (sc0) := (SC.new (by simp)).below z
  have B := below_next (bel_alloc (bel_alloc (bel_alloc (Below.refl w.heap.size w)))) z
  clear z
  obtain ⟨JXl, JX0, JX1, JX2, JX3⟩ := JX.k
  obtain ⟨JYl, JY0, JY1, JY2, JY3⟩ := JY.k
  obtain ⟨JRl, JR0, JR1, JR2, JR3, JRf0, JRf1, JRf2, JRf3⟩ := id JR
  have lb := B.size
  go_wp2_with fail
  refine (X2.out _).mono ?_
  rintro e w2 ⟨rfl, z⟩
  clear JX0 JX1 JX2 JX3 JXl JY0 JY1 JY2 JY3 JYl JR0 JR1 JR2 JR3 JRl JRf0 JRf1 JRf2 JRf3 lb
  have g2JX : w.heap.size < w1.heap.size := JX.lt
  have g2JY : w.heap.size + 1 < w1.heap.size := JY.lt
  have g2JR : w.heap.size + 1 + 1 < w1.heap.size := JR.lt
  have g2B := B.size
  replace JX := (JX.alloc _).below z
  replace JY := (JY.alloc _).below z
  replace JR := (JR.alloc _).below z
  have JT : BC w2 (w1.heap.size) (T) := (BC.new rfl).below z
  replace B := below_next (bel_alloc B) z
  clear z
  obtain ⟨JXl, JX0, JX1, JX2, JX3⟩ := JX.k
  obtain ⟨JYl, JY0, JY1, JY2, JY3⟩ := JY.k
  obtain ⟨JRl, JR0, JR1, JR2, JR3, JRf0, JRf1, JRf2, JRf3⟩ := id JR
  have JT0 := JT.c0
  have JT1 := JT.c1
  have JTl := JT.lt
  have lb := B.size
  go_wp2_with fail
  refine (X3.out _).mono ?_
  rintro e w3 ⟨rfl, z⟩
  clear JX0 JX1 JX2 JX3 JXl JY0 JY1 JY2 JY3 JYl JR0 JR1 JR2 JR3 JRl JRf0 JRf1 JRf2 JRf3 JT0 JT1 JTl lb
  have g3JX : w.heap.size < w2.heap.size := JX.lt
  have g3JY : w.heap.size + 1 < w2.heap.size := JY.lt
  have g3JR : w.heap.size + 1 + 1 < w2.heap.size := JR.lt
  have g3JT : w1.heap.size < w2.heap.size := JT.lt
  have g3B := B.size
  replace JX := (JX.alloc _).below z
  replace JY := (JY.alloc _).below z
  replace JR := (JR.alloc _).below z
  replace JT := (JT.alloc _).below z
  have JU : BC w3 (w2.heap.size) (U) := (BC.new rfl).below z
  replace B := below_next (bel_alloc B) z
  clear z
  obtain ⟨JXl, JX0, JX1, JX2, JX3⟩ := JX.k
  obtain ⟨JYl, JY0, JY1, JY2, JY3⟩ := JY.k
  obtain ⟨JRl, JR0, JR1, JR2, JR3, JRf0, JRf1, JRf2, JRf3⟩ := id JR
  have JT0 := JT.c0
  have JT1 := JT.c1
  have JTl := JT.lt
  have JU0 := JU.c0
  have JU1 := JU.c1
  have JUl := JU.lt
  have lb := B.size
  go_wp2_with fail
  refine (X4.out _).mono ?_
  rintro e w4 ⟨rfl, z⟩
  clear JX0 JX1 JX2 JX3 JXl JY0 JY1 JY2 JY3 JYl JR0 JR1 JR2 JR3 JRl JRf0 JRf1 JRf2 JRf3 JT0 JT1 JTl JU0 JU1 JUl lb
  replace JX := JX.below z
  replace JY := JY.below z
  replace JR := JR.below z
  replace JT := JT.below z
  replace JU := JU.below z
  replace B := below_next B z
  clear z
  obtain ⟨JXl, JX0, JX1, JX2, JX3⟩ := JX.k
  obtain ⟨JYl, JY0, JY1, JY2, JY3⟩ := JY.k
  obtain ⟨JRl, JR0, JR1, JR2, JR3, JRf0, JRf1, JRf2, JRf3⟩ := id JR
  have JT0 := JT.c0
  have JT1 := JT.c1
  have JTl := JT.lt
  have JU0 := JU.c0
  have JU1 := JU.c1
  have JUl := JU.lt
  have lb := B.size
  go_wp2_with fail
  refine (X5.out _).mono ?_
  rintro e w5 ⟨rfl, z⟩
  clear JX0 JX1 JX2 JX3 JXl JY0 JY1 JY2 JY3 JYl JR0 JR1 JR2 JR3 JRl JRf0 JRf1 JRf2 JRf3 JT0 JT1 JTl JU0 JU1 JUl lb
  replace JX := JX.below z
  replace JY := JY.below z
  replace JR := JR.below z
  replace JT := JT.below z
  replace JU := JU.below z
  replace B := below_next B z
  clear z
  obtain ⟨JXl, JX0, JX1, JX2, JX3⟩ := JX.k
  obtain ⟨JYl, JY0, JY1, JY2, JY3⟩ := JY.k
  obtain ⟨JRl, JR0, JR1, JR2, JR3, JRf0, JRf1, JRf2, JRf3⟩ := id JR
  have JT0 := JT.c0
  have JT1 := JT.c1
  have JTl := JT.lt
  have JU0 := JU.c0
  have JU1 := JU.c1
  have JUl := JU.lt
  have lb := B.size
  go_wp2
  exact bodyPost_ret (v := .tuple #[sv Z, .bool K]) (by simp [results, Tryz.results14, go_sem, JX0, JX1, JX2, JX3, JXl, JY0, JY1, JY2, JY3, JYl, JR0, JR1, JR2, JR3, JRl, JT0, JT1, JTl, JU0, JU1, JUl]; try first | rfl | exact ⟨rfl, rfl⟩) rfl ⟨rfl, putS_below Z B (by omega)⟩
end Go.Proofs.YtodmikjpmcabiaaGreat
