/-
  Contracts of the document's Meet, Below (layer 11).
-/
import Derived.Test.YtodmikjpmcabiaaGreatZRcC
import Derived.Test.YtodmikjpmcabiaaGreatZTnRa
import Derived.Test.YtodmikjpmcabiaaGreatZSpU
import Derived.Test.YtodmikjpmcabiaaGreatZScM
import Derived.Test.YtodmikjpmcabiaaGreatZSeO
import Derived.Test.YtodmikjpmcabiaaGreatZSpTp
import Derived.Deep.RegionHeld3
namespace Go.Proofs.YtodmikjpmcabiaaGreat
set_option linter.unusedSimpArgs false
set_option linter.unusedVariables false
set_option maxRecDepth 100000
set_option maxRecDepth 100000
open Go.ChangeShapes Go.WideShapes Go.ChangeAt Go.RowKit

set_option maxHeartbeats 8000000 in
theorem rMeetX_any (a b : Sc) (w : World) : Calls Tryz.prog 15 #[sv a, sv b] w fun e w' => e = .returned (.tuple #[sv (optS (meetO a b)), .bool (meetO a b).isSome]) ∧ Below w.heap.size w w' := by
  have XA := fun W => rMayX_any a W
  have XB := fun W => rMayX_any b W
  have X1 := fun W => rMeet_any a.1 b.1 W
  have X2 := fun W => qMeet_any a.2 b.2 W
  have X3 := fun W => rSettle_any (meetT a.1 b.1) (meetP a.2 b.2) W
  unfold meetO meetOk
  cases ha : mayX a
  · rw [show (meetB a.1 b.1 && (mayS (meetP a.2 b.2) && (false && mayX b))) = false by simp, if_neg (by decide)]
    rw [ha] at XA
    clear X1 X2 X3 XB ha
    obtain ⟨⟨v, m⟩, l, h⟩ := a
    obtain ⟨⟨v', m'⟩, l', h'⟩ := b
    unfold sv at XA ⊢
    dsimp only at XA ⊢
    replace XA := hid XA
    go_enter Tryz.func15, Tryz.ntmps15
    go_wp2_with fail
    refine (XA.out _).mono ?_
    rintro e w1 ⟨rfl, z⟩
    have JX : SC w1 (w.heap.size) (((v, m), l, h)) := (((SC.new rfl).alloc _).alloc _).below z
    have JY : SC w1 (w.heap.size + 1) (((v', m'), l', h')) := ((SC.new (by simp)).alloc _).below z
    have JR : SC w1 (w.heap.size + 1 + 1) (sc0) := (SC.new (by simp)).below z
    have B := below_next (bel_alloc (bel_alloc (bel_alloc (Below.refl w.heap.size w)))) z
    clear z
    have JX0 := JX.c0
    have JX1 := JX.c1
    have JX2 := JX.c2
    have JX3 := JX.c3
    have JXl := JX.lt
    have JY0 := JY.c0
    have JY1 := JY.c1
    have JY2 := JY.c2
    have JY3 := JY.c3
    have JYl := JY.lt
    have JR0 := JR.c0
    have JR1 := JR.c1
    have JR2 := JR.c2
    have JR3 := JR.c3
    have JRl := JR.lt
    have JRf0 := JR.f0
    have JRf1 := JR.f1
    have JRf2 := JR.f2
    have JRf3 := JR.f3
    have lb := B.size
    go_wp2
    exact bodyPost_ret (v := .tuple #[sv sc0, .bool false]) (by simp [results, Tryz.results15, go_sem, JX0, JX1, JX2, JX3, JXl, JY0, JY1, JY2, JY3, JYl, JR0, JR1, JR2, JR3, JRl]; try first | rfl | exact ⟨rfl, rfl⟩) rfl ⟨rfl, putS_below sc0 B (by omega)⟩
  rw [Bool.true_and]
  cases hb : mayX b
  · rw [show (meetB a.1 b.1 && (mayS (meetP a.2 b.2) && false)) = false by simp, if_neg (by decide)]
    rw [ha] at XA
    rw [hb] at XB
    clear X1 X2 X3 ha hb
    obtain ⟨⟨v, m⟩, l, h⟩ := a
    obtain ⟨⟨v', m'⟩, l', h'⟩ := b
    unfold sv at XA XB ⊢
    dsimp only at XA XB ⊢
    replace XA := hid XA
    replace XB := hid XB
    go_enter Tryz.func15, Tryz.ntmps15
    go_wp2_with fail
    refine (XA.out _).mono ?_
    rintro e w1 ⟨rfl, z⟩
    have JX : SC w1 (w.heap.size) (((v, m), l, h)) := (((SC.new rfl).alloc _).alloc _).below z
    have JY : SC w1 (w.heap.size + 1) (((v', m'), l', h')) := ((SC.new (by simp)).alloc _).below z
    have JR : SC w1 (w.heap.size + 1 + 1) (sc0) := (SC.new (by simp)).below z
    have B := below_next (bel_alloc (bel_alloc (bel_alloc (Below.refl w.heap.size w)))) z
    clear z
    have JX0 := JX.c0
    have JX1 := JX.c1
    have JX2 := JX.c2
    have JX3 := JX.c3
    have JXl := JX.lt
    have JY0 := JY.c0
    have JY1 := JY.c1
    have JY2 := JY.c2
    have JY3 := JY.c3
    have JYl := JY.lt
    have JR0 := JR.c0
    have JR1 := JR.c1
    have JR2 := JR.c2
    have JR3 := JR.c3
    have JRl := JR.lt
    have JRf0 := JR.f0
    have JRf1 := JR.f1
    have JRf2 := JR.f2
    have JRf3 := JR.f3
    have lb := B.size
    go_wp2_with fail
    refine (XB.out _).mono ?_
    rintro e w2 ⟨rfl, z⟩
    clear JX0 JX1 JX2 JX3 JXl JY0 JY1 JY2 JY3 JYl JR0 JR1 JR2 JR3 JRl JRf0 JRf1 JRf2 JRf3 lb
    replace JX := JX.below z
    replace JY := JY.below z
    replace JR := JR.below z
    replace B := below_next B z
    clear z
    have JX0 := JX.c0
    have JX1 := JX.c1
    have JX2 := JX.c2
    have JX3 := JX.c3
    have JXl := JX.lt
    have JY0 := JY.c0
    have JY1 := JY.c1
    have JY2 := JY.c2
    have JY3 := JY.c3
    have JYl := JY.lt
    have JR0 := JR.c0
    have JR1 := JR.c1
    have JR2 := JR.c2
    have JR3 := JR.c3
    have JRl := JR.lt
    have JRf0 := JR.f0
    have JRf1 := JR.f1
    have JRf2 := JR.f2
    have JRf3 := JR.f3
    have lb := B.size
    go_wp2
    exact bodyPost_ret (v := .tuple #[sv sc0, .bool false]) (by simp [results, Tryz.results15, go_sem, JX0, JX1, JX2, JX3, JXl, JY0, JY1, JY2, JY3, JYl, JR0, JR1, JR2, JR3, JRl]; try first | rfl | exact ⟨rfl, rfl⟩) rfl ⟨rfl, putS_below sc0 B (by omega)⟩
  rw [Bool.and_true]
  rw [ha] at XA
  rw [hb] at XB
  clear ha hb
  unfold meetS at X2
  cases h1 : meetB a.1 b.1
  · rw [Bool.false_and, if_neg (by decide)]
    rw [h1] at X1
    generalize (if false = true then meetT a.1 b.1 else t0) = T at *
    generalize (if mayS (meetP a.2 b.2) = true then meetP a.2 b.2 else t0) = U at *
    generalize mayS (meetP a.2 b.2) = k2 at *
    clear X3 h1
    obtain ⟨⟨v, m⟩, l, h⟩ := a
    obtain ⟨⟨v', m'⟩, l', h'⟩ := b
    unfold sv at XA XB ⊢
    unfold tv at X1 X2
    dsimp only at XA XB X1 X2 ⊢
    replace XA := hid XA
    replace XB := hid XB
    replace X1 := hid X1
    replace X2 := hid X2
    go_enter Tryz.func15, Tryz.ntmps15
    go_wp2_with fail
    refine (XA.out _).mono ?_
    rintro e w1 ⟨rfl, z⟩
    have JX : SC w1 (w.heap.size) (((v, m), l, h)) := (((SC.new rfl).alloc _).alloc _).below z
    have JY : SC w1 (w.heap.size + 1) (((v', m'), l', h')) := ((SC.new (by simp)).alloc _).below z
    have JR : SC w1 (w.heap.size + 1 + 1) (sc0) := (SC.new (by simp)).below z
    have B := below_next (bel_alloc (bel_alloc (bel_alloc (Below.refl w.heap.size w)))) z
    clear z
    have JX0 := JX.c0
    have JX1 := JX.c1
    have JX2 := JX.c2
    have JX3 := JX.c3
    have JXl := JX.lt
    have JY0 := JY.c0
    have JY1 := JY.c1
    have JY2 := JY.c2
    have JY3 := JY.c3
    have JYl := JY.lt
    have JR0 := JR.c0
    have JR1 := JR.c1
    have JR2 := JR.c2
    have JR3 := JR.c3
    have JRl := JR.lt
    have JRf0 := JR.f0
    have JRf1 := JR.f1
    have JRf2 := JR.f2
    have JRf3 := JR.f3
    have lb := B.size
    go_wp2_with fail
    refine (XB.out _).mono ?_
    rintro e w2 ⟨rfl, z⟩
    clear JX0 JX1 JX2 JX3 JXl JY0 JY1 JY2 JY3 JYl JR0 JR1 JR2 JR3 JRl JRf0 JRf1 JRf2 JRf3 lb
    replace JX := JX.below z
    replace JY := JY.below z
    replace JR := JR.below z
    replace B := below_next B z
    clear z
    have JX0 := JX.c0
    have JX1 := JX.c1
    have JX2 := JX.c2
    have JX3 := JX.c3
    have JXl := JX.lt
    have JY0 := JY.c0
    have JY1 := JY.c1
    have JY2 := JY.c2
    have JY3 := JY.c3
    have JYl := JY.lt
    have JR0 := JR.c0
    have JR1 := JR.c1
    have JR2 := JR.c2
    have JR3 := JR.c3
    have JRl := JR.lt
    have JRf0 := JR.f0
    have JRf1 := JR.f1
    have JRf2 := JR.f2
    have JRf3 := JR.f3
    have lb := B.size
    go_wp2_with fail
    refine (X1.out _).mono ?_
    rintro e w3 ⟨rfl, z⟩
    clear JX0 JX1 JX2 JX3 JXl JY0 JY1 JY2 JY3 JYl JR0 JR1 JR2 JR3 JRl JRf0 JRf1 JRf2 JRf3 lb
    replace JX := JX.below z
    replace JY := JY.below z
    replace JR := JR.below z
    replace B := below_next B z
    clear z
    have JX0 := JX.c0
    have JX1 := JX.c1
    have JX2 := JX.c2
    have JX3 := JX.c3
    have JXl := JX.lt
    have JY0 := JY.c0
    have JY1 := JY.c1
    have JY2 := JY.c2
    have JY3 := JY.c3
    have JYl := JY.lt
    have JR0 := JR.c0
    have JR1 := JR.c1
    have JR2 := JR.c2
    have JR3 := JR.c3
    have JRl := JR.lt
    have JRf0 := JR.f0
    have JRf1 := JR.f1
    have JRf2 := JR.f2
    have JRf3 := JR.f3
    have lb := B.size
    go_wp2_with fail
    refine (X2.out _).mono ?_
    rintro e w4 ⟨rfl, z⟩
    clear JX0 JX1 JX2 JX3 JXl JY0 JY1 JY2 JY3 JYl JR0 JR1 JR2 JR3 JRl JRf0 JRf1 JRf2 JRf3 lb
    have g4JX : w.heap.size < w3.heap.size := JX.lt
    have g4JY : w.heap.size + 1 < w3.heap.size := JY.lt
    have g4JR : w.heap.size + 1 + 1 < w3.heap.size := JR.lt
    have g4B := B.size
    replace JX := (JX.alloc _).below z
    replace JY := (JY.alloc _).below z
    replace JR := (JR.alloc _).below z
    have JT : BC w4 (w3.heap.size) (T) := (BC.new rfl).below z
    replace B := below_next (bel_alloc B) z
    clear z
    have JX0 := JX.c0
    have JX1 := JX.c1
    have JX2 := JX.c2
    have JX3 := JX.c3
    have JXl := JX.lt
    have JY0 := JY.c0
    have JY1 := JY.c1
    have JY2 := JY.c2
    have JY3 := JY.c3
    have JYl := JY.lt
    have JR0 := JR.c0
    have JR1 := JR.c1
    have JR2 := JR.c2
    have JR3 := JR.c3
    have JRl := JR.lt
    have JRf0 := JR.f0
    have JRf1 := JR.f1
    have JRf2 := JR.f2
    have JRf3 := JR.f3
    have JT0 := JT.c0
    have JT1 := JT.c1
    have JTl := JT.lt
    have lb := B.size
    go_wp2
    exact bodyPost_ret (v := .tuple #[sv sc0, .bool false]) (by simp [results, Tryz.results15, go_sem, JX0, JX1, JX2, JX3, JXl, JY0, JY1, JY2, JY3, JYl, JR0, JR1, JR2, JR3, JRl, JT0, JT1, JTl]; try first | rfl | exact ⟨rfl, rfl⟩) rfl ⟨rfl, bel_alloc (putS_below sc0 B (by omega))⟩
  rw [Bool.true_and]
  rw [h1, if_pos rfl] at X1
  cases h2 : mayS (meetP a.2 b.2)
  · rw [if_neg (by decide)]
    rw [h2] at X2
    generalize (if false = true then meetP a.2 b.2 else t0) = U at *
    generalize meetT a.1 b.1 = T at *
    clear X3 h1 h2
    obtain ⟨⟨v, m⟩, l, h⟩ := a
    obtain ⟨⟨v', m'⟩, l', h'⟩ := b
    unfold sv at XA XB ⊢
    unfold tv at X1 X2
    dsimp only at XA XB X1 X2 ⊢
    replace XA := hid XA
    replace XB := hid XB
    replace X1 := hid X1
    replace X2 := hid X2
    go_enter Tryz.func15, Tryz.ntmps15
    go_wp2_with fail
    refine (XA.out _).mono ?_
    rintro e w1 ⟨rfl, z⟩
    have JX : SC w1 (w.heap.size) (((v, m), l, h)) := (((SC.new rfl).alloc _).alloc _).below z
    have JY : SC w1 (w.heap.size + 1) (((v', m'), l', h')) := ((SC.new (by simp)).alloc _).below z
    have JR : SC w1 (w.heap.size + 1 + 1) (sc0) := (SC.new (by simp)).below z
    have B := below_next (bel_alloc (bel_alloc (bel_alloc (Below.refl w.heap.size w)))) z
    clear z
    have JX0 := JX.c0
    have JX1 := JX.c1
    have JX2 := JX.c2
    have JX3 := JX.c3
    have JXl := JX.lt
    have JY0 := JY.c0
    have JY1 := JY.c1
    have JY2 := JY.c2
    have JY3 := JY.c3
    have JYl := JY.lt
    have JR0 := JR.c0
    have JR1 := JR.c1
    have JR2 := JR.c2
    have JR3 := JR.c3
    have JRl := JR.lt
    have JRf0 := JR.f0
    have JRf1 := JR.f1
    have JRf2 := JR.f2
    have JRf3 := JR.f3
    have lb := B.size
    go_wp2_with fail
    refine (XB.out _).mono ?_
    rintro e w2 ⟨rfl, z⟩
    clear JX0 JX1 JX2 JX3 JXl JY0 JY1 JY2 JY3 JYl JR0 JR1 JR2 JR3 JRl JRf0 JRf1 JRf2 JRf3 lb
    replace JX := JX.below z
    replace JY := JY.below z
    replace JR := JR.below z
    replace B := below_next B z
    clear z
    have JX0 := JX.c0
    have JX1 := JX.c1
    have JX2 := JX.c2
    have JX3 := JX.c3
    have JXl := JX.lt
    have JY0 := JY.c0
    have JY1 := JY.c1
    have JY2 := JY.c2
    have JY3 := JY.c3
    have JYl := JY.lt
    have JR0 := JR.c0
    have JR1 := JR.c1
    have JR2 := JR.c2
    have JR3 := JR.c3
    have JRl := JR.lt
    have JRf0 := JR.f0
    have JRf1 := JR.f1
    have JRf2 := JR.f2
    have JRf3 := JR.f3
    have lb := B.size
    go_wp2_with fail
    refine (X1.out _).mono ?_
    rintro e w3 ⟨rfl, z⟩
    clear JX0 JX1 JX2 JX3 JXl JY0 JY1 JY2 JY3 JYl JR0 JR1 JR2 JR3 JRl JRf0 JRf1 JRf2 JRf3 lb
    replace JX := JX.below z
    replace JY := JY.below z
    replace JR := JR.below z
    replace B := below_next B z
    clear z
    have JX0 := JX.c0
    have JX1 := JX.c1
    have JX2 := JX.c2
    have JX3 := JX.c3
    have JXl := JX.lt
    have JY0 := JY.c0
    have JY1 := JY.c1
    have JY2 := JY.c2
    have JY3 := JY.c3
    have JYl := JY.lt
    have JR0 := JR.c0
    have JR1 := JR.c1
    have JR2 := JR.c2
    have JR3 := JR.c3
    have JRl := JR.lt
    have JRf0 := JR.f0
    have JRf1 := JR.f1
    have JRf2 := JR.f2
    have JRf3 := JR.f3
    have lb := B.size
    go_wp2_with fail
    refine (X2.out _).mono ?_
    rintro e w4 ⟨rfl, z⟩
    clear JX0 JX1 JX2 JX3 JXl JY0 JY1 JY2 JY3 JYl JR0 JR1 JR2 JR3 JRl JRf0 JRf1 JRf2 JRf3 lb
    have g4JX : w.heap.size < w3.heap.size := JX.lt
    have g4JY : w.heap.size + 1 < w3.heap.size := JY.lt
    have g4JR : w.heap.size + 1 + 1 < w3.heap.size := JR.lt
    have g4B := B.size
    replace JX := (JX.alloc _).below z
    replace JY := (JY.alloc _).below z
    replace JR := (JR.alloc _).below z
    have JT : BC w4 (w3.heap.size) (T) := (BC.new rfl).below z
    replace B := below_next (bel_alloc B) z
    clear z
    have JX0 := JX.c0
    have JX1 := JX.c1
    have JX2 := JX.c2
    have JX3 := JX.c3
    have JXl := JX.lt
    have JY0 := JY.c0
    have JY1 := JY.c1
    have JY2 := JY.c2
    have JY3 := JY.c3
    have JYl := JY.lt
    have JR0 := JR.c0
    have JR1 := JR.c1
    have JR2 := JR.c2
    have JR3 := JR.c3
    have JRl := JR.lt
    have JRf0 := JR.f0
    have JRf1 := JR.f1
    have JRf2 := JR.f2
    have JRf3 := JR.f3
    have JT0 := JT.c0
    have JT1 := JT.c1
    have JTl := JT.lt
    have lb := B.size
    go_wp2
    exact bodyPost_ret (v := .tuple #[sv sc0, .bool false]) (by simp [results, Tryz.results15, go_sem, JX0, JX1, JX2, JX3, JXl, JY0, JY1, JY2, JY3, JYl, JR0, JR1, JR2, JR3, JRl, JT0, JT1, JTl]; try first | rfl | exact ⟨rfl, rfl⟩) rfl ⟨rfl, bel_alloc (putS_below sc0 B (by omega))⟩
  rw [if_pos rfl]
  rw [h2, if_pos rfl] at X2
  clear h1 h2
  generalize (settle (meetT a.1 b.1, meetP a.2 b.2)).isSome = K at *
  generalize optS (settle (meetT a.1 b.1, meetP a.2 b.2)) = Z at *
  generalize meetT a.1 b.1 = T at *
  generalize meetP a.2 b.2 = U at *
  obtain ⟨⟨v, m⟩, l, h⟩ := a
  obtain ⟨⟨v', m'⟩, l', h'⟩ := b
  unfold sv at XA XB X3 ⊢
  unfold tv at X1 X2 X3
  dsimp only at XA XB X1 X2 X3 ⊢
  replace XA := hid XA
  replace XB := hid XB
  replace X1 := hid X1
  replace X2 := hid X2
  replace X3 := hid X3
  go_enter Tryz.func15, Tryz.ntmps15
  go_wp2_with fail
  refine (XA.out _).mono ?_
  rintro e w1 ⟨rfl, z⟩
  have JX : SC w1 (w.heap.size) (((v, m), l, h)) := (((SC.new rfl).alloc _).alloc _).below z
  have JY : SC w1 (w.heap.size + 1) (((v', m'), l', h')) := ((SC.new (by simp)).alloc _).below z
  have JR : SC w1 (w.heap.size + 1 + 1) (sc0) := (SC.new (by simp)).below z
  have B := below_next (bel_alloc (bel_alloc (bel_alloc (Below.refl w.heap.size w)))) z
  clear z
  have JX0 := JX.c0
  have JX1 := JX.c1
  have JX2 := JX.c2
  have JX3 := JX.c3
  have JXl := JX.lt
  have JY0 := JY.c0
  have JY1 := JY.c1
  have JY2 := JY.c2
  have JY3 := JY.c3
  have JYl := JY.lt
  have JR0 := JR.c0
  have JR1 := JR.c1
  have JR2 := JR.c2
  have JR3 := JR.c3
  have JRl := JR.lt
  have JRf0 := JR.f0
  have JRf1 := JR.f1
  have JRf2 := JR.f2
  have JRf3 := JR.f3
  have lb := B.size
  go_wp2_with fail
  refine (XB.out _).mono ?_
  rintro e w2 ⟨rfl, z⟩
  clear JX0 JX1 JX2 JX3 JXl JY0 JY1 JY2 JY3 JYl JR0 JR1 JR2 JR3 JRl JRf0 JRf1 JRf2 JRf3 lb
  replace JX := JX.below z
  replace JY := JY.below z
  replace JR := JR.below z
  replace B := below_next B z
  clear z
  have JX0 := JX.c0
  have JX1 := JX.c1
  have JX2 := JX.c2
  have JX3 := JX.c3
  have JXl := JX.lt
  have JY0 := JY.c0
  have JY1 := JY.c1
  have JY2 := JY.c2
  have JY3 := JY.c3
  have JYl := JY.lt
  have JR0 := JR.c0
  have JR1 := JR.c1
  have JR2 := JR.c2
  have JR3 := JR.c3
  have JRl := JR.lt
  have JRf0 := JR.f0
  have JRf1 := JR.f1
  have JRf2 := JR.f2
  have JRf3 := JR.f3
  have lb := B.size
  go_wp2_with fail
  refine (X1.out _).mono ?_
  rintro e w3 ⟨rfl, z⟩
  clear JX0 JX1 JX2 JX3 JXl JY0 JY1 JY2 JY3 JYl JR0 JR1 JR2 JR3 JRl JRf0 JRf1 JRf2 JRf3 lb
  replace JX := JX.below z
  replace JY := JY.below z
  replace JR := JR.below z
  replace B := below_next B z
  clear z
  have JX0 := JX.c0
  have JX1 := JX.c1
  have JX2 := JX.c2
  have JX3 := JX.c3
  have JXl := JX.lt
  have JY0 := JY.c0
  have JY1 := JY.c1
  have JY2 := JY.c2
  have JY3 := JY.c3
  have JYl := JY.lt
  have JR0 := JR.c0
  have JR1 := JR.c1
  have JR2 := JR.c2
  have JR3 := JR.c3
  have JRl := JR.lt
  have JRf0 := JR.f0
  have JRf1 := JR.f1
  have JRf2 := JR.f2
  have JRf3 := JR.f3
  have lb := B.size
  go_wp2_with fail
  refine (X2.out _).mono ?_
  rintro e w4 ⟨rfl, z⟩
  clear JX0 JX1 JX2 JX3 JXl JY0 JY1 JY2 JY3 JYl JR0 JR1 JR2 JR3 JRl JRf0 JRf1 JRf2 JRf3 lb
  have g4JX : w.heap.size < w3.heap.size := JX.lt
  have g4JY : w.heap.size + 1 < w3.heap.size := JY.lt
  have g4JR : w.heap.size + 1 + 1 < w3.heap.size := JR.lt
  have g4B := B.size
  replace JX := (JX.alloc _).below z
  replace JY := (JY.alloc _).below z
  replace JR := (JR.alloc _).below z
  have JT : BC w4 (w3.heap.size) (T) := (BC.new rfl).below z
  replace B := below_next (bel_alloc B) z
  clear z
  have JX0 := JX.c0
  have JX1 := JX.c1
  have JX2 := JX.c2
  have JX3 := JX.c3
  have JXl := JX.lt
  have JY0 := JY.c0
  have JY1 := JY.c1
  have JY2 := JY.c2
  have JY3 := JY.c3
  have JYl := JY.lt
  have JR0 := JR.c0
  have JR1 := JR.c1
  have JR2 := JR.c2
  have JR3 := JR.c3
  have JRl := JR.lt
  have JRf0 := JR.f0
  have JRf1 := JR.f1
  have JRf2 := JR.f2
  have JRf3 := JR.f3
  have JT0 := JT.c0
  have JT1 := JT.c1
  have JTl := JT.lt
  have lb := B.size
  go_wp2_with fail
  refine (X3.out _).mono ?_
  rintro e w5 ⟨rfl, z⟩
  clear JX0 JX1 JX2 JX3 JXl JY0 JY1 JY2 JY3 JYl JR0 JR1 JR2 JR3 JRl JRf0 JRf1 JRf2 JRf3 JT0 JT1 JTl lb
  have g5JX : w.heap.size < w4.heap.size := JX.lt
  have g5JY : w.heap.size + 1 < w4.heap.size := JY.lt
  have g5JR : w.heap.size + 1 + 1 < w4.heap.size := JR.lt
  have g5JT : w3.heap.size < w4.heap.size := JT.lt
  have g5B := B.size
  replace JX := (JX.alloc _).below z
  replace JY := (JY.alloc _).below z
  replace JR := (JR.alloc _).below z
  replace JT := (JT.alloc _).below z
  have JU : BC w5 (w4.heap.size) (U) := (BC.new rfl).below z
  replace B := below_next (bel_alloc B) z
  clear z
  have JX0 := JX.c0
  have JX1 := JX.c1
  have JX2 := JX.c2
  have JX3 := JX.c3
  have JXl := JX.lt
  have JY0 := JY.c0
  have JY1 := JY.c1
  have JY2 := JY.c2
  have JY3 := JY.c3
  have JYl := JY.lt
  have JR0 := JR.c0
  have JR1 := JR.c1
  have JR2 := JR.c2
  have JR3 := JR.c3
  have JRl := JR.lt
  have JRf0 := JR.f0
  have JRf1 := JR.f1
  have JRf2 := JR.f2
  have JRf3 := JR.f3
  have JT0 := JT.c0
  have JT1 := JT.c1
  have JTl := JT.lt
  have JU0 := JU.c0
  have JU1 := JU.c1
  have JUl := JU.lt
  have lb := B.size
  go_wp2
  exact bodyPost_ret (v := .tuple #[sv Z, .bool K]) (by simp [results, Tryz.results15, go_sem, JX0, JX1, JX2, JX3, JXl, JY0, JY1, JY2, JY3, JYl, JR0, JR1, JR2, JR3, JRl, JT0, JT1, JTl, JU0, JU1, JUl]; try first | rfl | exact ⟨rfl, rfl⟩) rfl ⟨rfl, putS_below Z B (by omega)⟩
def belowR (n : Int) : Sc := if n = 64 then allX else if n = 8 ∨ n = 16 ∨ n = 32 then ((0#64, 1#64 <<< n.toNat - 1#64), (0#64, 1#64 <<< n.toNat - 1#64)) else sc0
theorem belowR_is : ∀ n : Fin 100, belowR (n.val : Int) = belowI (n.val : Int) := by decide +kernel
set_option maxHeartbeats 4000000 in
theorem rBelow_64 (w : World) : Calls Tryz.prog 21 #[.int .i64 64] w fun e w' => e = .returned (sv allX) ∧ Below w.heap.size w w' := by
  have XA := hid fun W => rAllX_any W
  generalize allX = Z at *
  unfold sv at XA ⊢
  go_enter Tryz.func21, Tryz.ntmps21
  go_wp2_with fail
  refine (XA.out _).mono ?_
  rintro e w1 ⟨rfl, z⟩
  have JR : SC w1 w.heap.size sc0 := (SC.new rfl).below z
  have B := below_next (bel_alloc (Below.refl w.heap.size w)) z
  clear z
  have JR0 := JR.c0
  have JR1 := JR.c1
  have JR2 := JR.c2
  have JR3 := JR.c3
  have JRl := JR.lt
  have JRf0 := JR.f0
  have JRf1 := JR.f1
  have JRf2 := JR.f2
  have JRf3 := JR.f3
  have lb := B.size
  go_wp2
  exact bodyPost_ret (v := sv Z) (by simp [results, Tryz.results21, go_sem, JR0, JR1, JR2, JR3, JRl]; try first | rfl | exact ⟨rfl, rfl⟩) rfl ⟨rfl, putS_below Z B (by omega)⟩
set_option maxHeartbeats 4000000 in
theorem rBelow_no (n : Int) (h64 : ¬ n = 64) (h8 : ¬ n = 8) (h16 : ¬ n = 16) (h32 : ¬ n = 32) (w : World) : Calls Tryz.prog 21 #[.int .i64 n] w fun e w' => e = .returned (sv sc0) ∧ Below w.heap.size w w' := by
  have XA := hid fun W => rOfX_any 0#64 W
  have e64 : (n == 64) = false := by simpa using h64
  have e8 : (n != 8) = true := by simpa using h8
  have e16 : (n != 16) = true := by simpa using h16
  have e32 : (n != 32) = true := by simpa using h32
  clear h64 h8 h16 h32
  rw [show ofX 0#64 = sc0 from rfl] at XA
  go_enter Tryz.func21, Tryz.ntmps21
  go_wp2_with fail
  refine (XA.out _).mono ?_
  rintro e w1 ⟨rfl, z⟩
  have JR : SC w1 w.heap.size sc0 := (SC.new rfl).below z
  have B := below_next (bel_alloc (Below.refl w.heap.size w)) z
  clear z
  unfold sv
  have JR0 := JR.c0
  have JR1 := JR.c1
  have JR2 := JR.c2
  have JR3 := JR.c3
  have JRl := JR.lt
  have JRf0 := JR.f0
  have JRf1 := JR.f1
  have JRf2 := JR.f2
  have JRf3 := JR.f3
  have lb := B.size
  go_wp2
  exact bodyPost_ret (v := sv sc0) (by simp [results, Tryz.results21, go_sem, JR0, JR1, JR2, JR3, JRl]; try first | rfl | exact ⟨rfl, rfl⟩) rfl ⟨rfl, putS_below sc0 B (by omega)⟩
set_option maxHeartbeats 8000000 in
theorem rBelow_yes (k : Nat) (hk : k = 8 ∨ k = 16 ∨ k = 32) (w : World) : Calls Tryz.prog 21 #[.int .i64 (k : Nat)] w fun e w' => e = .returned (sv ((0#64, 1#64 <<< k - 1#64), (0#64, 1#64 <<< k - 1#64))) ∧ Below w.heap.size w w' := by
  obtain ⟨R, HR⟩ : ∃ R : B64, R = 1#64 <<< k := ⟨_, rfl⟩
  rw [← HR]
  replace HR := hid HR
  rcases hk with rfl | rfl | rfl
  · skip
    go_enter Tryz.func21, Tryz.ntmps21
    go_wp2_with fail
    have JR : SC (w.alloc (.cells #[.int .u64 0, .int .u64 0, .int .u64 0, .int .u64 0] 28)) w.heap.size sc0 := SC.new (x := sc0) rfl
    have B : Below w.heap.size w (w.alloc (.cells #[.int .u64 0, .int .u64 0, .int .u64 0, .int .u64 0] 28)) := bel_alloc (Below.refl w.heap.size w)
    generalize w.alloc (.cells #[.int .u64 0, .int .u64 0, .int .u64 0, .int .u64 0] 28) = w1 at *
    go_loopw [3, 4] (fun n i wr => ∃ j : Nat, j ≤ 8 ∧ i = .int .i64 j ∧ n = .int .u64 (ub (1#64 <<< j)) ∧ Hid (wr = w1)) (fun n i _ => 8 - (intOf i).toNat)
    case atStart => exact ⟨0, by omega, rfl, rfl, hid rfl⟩
    case round =>
      obtain ⟨j, hj, rfl, rfl, HI⟩ := hrel
      by_cases hlt : j < 8
      · have hlt' : (j : Int) < 8 := by omega
        have HS := hid (show (1#64 <<< j) <<< 1 = 1#64 <<< (j + 1) by rw [← BitVec.shiftLeft_add])
        generalize 1#64 <<< j = n at *
        go_wp2
        go_roundw
        case rel => exact ⟨j + 1, by omega, by go_num, by rw [HS.out], HI⟩
        case measure => simp [intOf]; omega
      · have hlt' : ¬ (j : Int) < 8 := by omega
        obtain rfl : j = 8 := by omega
        rw [← HR.out]
        obtain rfl := HI.out
        have JR0 := JR.c0
        have JR1 := JR.c1
        have JR2 := JR.c2
        have JR3 := JR.c3
        have JRl := JR.lt
        have JRf0 := JR.f0
        have JRf1 := JR.f1
        have JRf2 := JR.f2
        have JRf3 := JR.f3
        have lb := B.size
        go_wp2
        exact bodyPost_ret (v := sv ((0#64, R - 1#64), (0#64, R - 1#64))) (by simp [results, Tryz.results21, go_sem, JR0, JR1, JR2, JR3, JRl]; try first | rfl | exact ⟨rfl, rfl⟩) rfl ⟨rfl, putS_below ((0#64, R - 1#64), (0#64, R - 1#64)) B (by omega)⟩
  · skip
    go_enter Tryz.func21, Tryz.ntmps21
    go_wp2_with fail
    have JR : SC (w.alloc (.cells #[.int .u64 0, .int .u64 0, .int .u64 0, .int .u64 0] 28)) w.heap.size sc0 := SC.new (x := sc0) rfl
    have B : Below w.heap.size w (w.alloc (.cells #[.int .u64 0, .int .u64 0, .int .u64 0, .int .u64 0] 28)) := bel_alloc (Below.refl w.heap.size w)
    generalize w.alloc (.cells #[.int .u64 0, .int .u64 0, .int .u64 0, .int .u64 0] 28) = w1 at *
    go_loopw [3, 4] (fun n i wr => ∃ j : Nat, j ≤ 16 ∧ i = .int .i64 j ∧ n = .int .u64 (ub (1#64 <<< j)) ∧ Hid (wr = w1)) (fun n i _ => 16 - (intOf i).toNat)
    case atStart => exact ⟨0, by omega, rfl, rfl, hid rfl⟩
    case round =>
      obtain ⟨j, hj, rfl, rfl, HI⟩ := hrel
      by_cases hlt : j < 16
      · have hlt' : (j : Int) < 16 := by omega
        have HS := hid (show (1#64 <<< j) <<< 1 = 1#64 <<< (j + 1) by rw [← BitVec.shiftLeft_add])
        generalize 1#64 <<< j = n at *
        go_wp2
        go_roundw
        case rel => exact ⟨j + 1, by omega, by go_num, by rw [HS.out], HI⟩
        case measure => simp [intOf]; omega
      · have hlt' : ¬ (j : Int) < 16 := by omega
        obtain rfl : j = 16 := by omega
        rw [← HR.out]
        obtain rfl := HI.out
        have JR0 := JR.c0
        have JR1 := JR.c1
        have JR2 := JR.c2
        have JR3 := JR.c3
        have JRl := JR.lt
        have JRf0 := JR.f0
        have JRf1 := JR.f1
        have JRf2 := JR.f2
        have JRf3 := JR.f3
        have lb := B.size
        go_wp2
        exact bodyPost_ret (v := sv ((0#64, R - 1#64), (0#64, R - 1#64))) (by simp [results, Tryz.results21, go_sem, JR0, JR1, JR2, JR3, JRl]; try first | rfl | exact ⟨rfl, rfl⟩) rfl ⟨rfl, putS_below ((0#64, R - 1#64), (0#64, R - 1#64)) B (by omega)⟩
  · skip
    go_enter Tryz.func21, Tryz.ntmps21
    go_wp2_with fail
    have JR : SC (w.alloc (.cells #[.int .u64 0, .int .u64 0, .int .u64 0, .int .u64 0] 28)) w.heap.size sc0 := SC.new (x := sc0) rfl
    have B : Below w.heap.size w (w.alloc (.cells #[.int .u64 0, .int .u64 0, .int .u64 0, .int .u64 0] 28)) := bel_alloc (Below.refl w.heap.size w)
    generalize w.alloc (.cells #[.int .u64 0, .int .u64 0, .int .u64 0, .int .u64 0] 28) = w1 at *
    go_loopw [3, 4] (fun n i wr => ∃ j : Nat, j ≤ 32 ∧ i = .int .i64 j ∧ n = .int .u64 (ub (1#64 <<< j)) ∧ Hid (wr = w1)) (fun n i _ => 32 - (intOf i).toNat)
    case atStart => exact ⟨0, by omega, rfl, rfl, hid rfl⟩
    case round =>
      obtain ⟨j, hj, rfl, rfl, HI⟩ := hrel
      by_cases hlt : j < 32
      · have hlt' : (j : Int) < 32 := by omega
        have HS := hid (show (1#64 <<< j) <<< 1 = 1#64 <<< (j + 1) by rw [← BitVec.shiftLeft_add])
        generalize 1#64 <<< j = n at *
        go_wp2
        go_roundw
        case rel => exact ⟨j + 1, by omega, by go_num, by rw [HS.out], HI⟩
        case measure => simp [intOf]; omega
      · have hlt' : ¬ (j : Int) < 32 := by omega
        obtain rfl : j = 32 := by omega
        rw [← HR.out]
        obtain rfl := HI.out
        have JR0 := JR.c0
        have JR1 := JR.c1
        have JR2 := JR.c2
        have JR3 := JR.c3
        have JRl := JR.lt
        have JRf0 := JR.f0
        have JRf1 := JR.f1
        have JRf2 := JR.f2
        have JRf3 := JR.f3
        have lb := B.size
        go_wp2
        exact bodyPost_ret (v := sv ((0#64, R - 1#64), (0#64, R - 1#64))) (by simp [results, Tryz.results21, go_sem, JR0, JR1, JR2, JR3, JRl]; try first | rfl | exact ⟨rfl, rfl⟩) rfl ⟨rfl, putS_below ((0#64, R - 1#64), (0#64, R - 1#64)) B (by omega)⟩
theorem rBelowI_any (n : Nat) (hn : n < 100) (w : World) : Calls Tryz.prog 21 #[.int .i64 (n : Int)] w fun e w' => e = .returned (sv (belowI (n : Int))) ∧ Below w.heap.size w w' := by
  rw [← belowR_is ⟨n, hn⟩]
  unfold belowR
  dsimp only
  by_cases h64 : (n : Int) = 64
  · rw [if_pos h64, h64]; exact rBelow_64 w
  rw [if_neg h64]
  by_cases h : (n : Int) = 8 ∨ (n : Int) = 16 ∨ (n : Int) = 32
  · rw [if_pos h, Int.toNat_natCast]; exact rBelow_yes n (by omega) w
  · rw [if_neg h]; exact rBelow_no n h64 (by omega) (by omega) (by omega) w
end Go.Proofs.YtodmikjpmcabiaaGreat
