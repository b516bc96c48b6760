/-
  Plain scalars: halves, operations, what they hold. Contracts of May, Of, All, Has, In, as the landed code has them.
-/
import Derived.Test.YtjcnpjidkimldaaGreatDoorAScP
import Derived.Test.YtjcnpjidkimldaaGreatDoorASpTp
import Derived.Test.YtjcnpjidkimldaaGreatDoorATnMr
import Derived.Test.YtjcnpjidkimldaaGreatDoorAScB
namespace Go.Proofs.YtjcnpjidkimldaaGreatDoor
set_option linter.unusedSimpArgs false
set_option linter.unusedVariables false
set_option maxRecDepth 100000
open Go.RowKit

def allT : Tn := (0#64, 18446744073709551615#64)
def allX : Sc := (allT, allT)
def ofX (n : B64) : Sc := ((n, 0#64), (n, n))
def opIs (op : Int) : Prop := 0 ≤ op ∧ op ≤ 12
instance (op : Int) : Decidable (opIs op) := by unfold opIs; infer_instance
end Go.Proofs.YtjcnpjidkimldaaGreatDoor

namespace Go.Proofs.YtjcnpjidkimldaaGreatDoor
set_option linter.unusedSimpArgs false
set_option linter.unusedVariables false
set_option maxRecDepth 100000
open Go.ChangeShapes Go.WideShapes Go.ChangeAt Go.RowKit

theorem mayX_is (x : Sc) : mayX x = ((settle x).isSome && (optS (settle x) == x)) := by
  rw [Bool.eq_iff_iff, mayX_settle]
  cases h : settle x with
  | none => simp
  | some y => simp [optS]
def inX (a b : Sc) : Bool := mayX a && (mayX b && (tin a.1 b.1 && inSp a.2 b.2))
set_option maxHeartbeats 4000000 in
theorem cMay_any (x : Sc) (w : World) : Calls Tryz.prog 118 #[sv x] w fun e w' => e = .returned (.bool (mayX x)) ∧ Below w.heap.size w w' := by
  rw [mayX_is]
  have X1 := fun W => cSettle_any x.1 x.2 W
  rw [show (x.1, x.2) = x from rfl] at X1
  generalize optS (settle x) = r at *
  have E := fun W => eq_sc r x W
  generalize (settle x).isSome = k at *
  obtain ⟨⟨v, m⟩, l, h⟩ := x
  cases k
  · unfold sv tv at X1
    unfold sv at E
    dsimp only at X1 E
    rw [Bool.false_and]
    replace X1 := hid X1
    unfold sv
    go_enter Tryz.func118, Tryz.ntmps118
    go_wp2_with fail
    refine (X1.out _).mono ?_
    rintro e w1 ⟨rfl, z⟩
    have JX : SC w1 (w.heap.size) (((v, m), l, h)) := (SC.new rfl).below z
    have B := below_next (bel_alloc (Below.refl w.heap.size w)) z
    clear z
    have JX0 := JX.c0
    have JX1 := JX.c1
    have JX2 := JX.c2
    have JX3 := JX.c3
    have JXl := JX.lt
    have lb := B.size
    go_wp2
    go_ret
    exact ⟨rfl, bel_alloc B⟩
  · unfold sv tv at X1
    unfold sv at E
    dsimp only at X1 E
    rw [Bool.true_and]
    replace X1 := hid X1
    unfold sv
    go_enter Tryz.func118, Tryz.ntmps118
    go_wp2_with fail
    refine (X1.out _).mono ?_
    rintro e w1 ⟨rfl, z⟩
    have JX : SC w1 (w.heap.size) (((v, m), l, h)) := (SC.new rfl).below z
    have B := below_next (bel_alloc (Below.refl w.heap.size w)) z
    clear z
    have JX0 := JX.c0
    have JX1 := JX.c1
    have JX2 := JX.c2
    have JX3 := JX.c3
    have JXl := JX.lt
    have lb := B.size
    go_wp2
    go_ret
    exact ⟨rfl, bel_alloc B⟩
set_option maxHeartbeats 4000000 in
theorem cAll_any  (w : World) : Calls Tryz.prog 233 #[] w fun e w' => e = .returned (sv allX) ∧ Below w.heap.size w w' := by
  have X1 := fun W => tAll_any W
  have X2 := fun W => sAll_any W
  unfold tv at X1 X2
  dsimp only at X1 X2
  replace X1 := hid X1
  replace X2 := hid X2
  go_enter Tryz.func233, Tryz.ntmps233
  go_wp2_with fail
  refine (X1.out _).mono ?_
  rintro e w1 ⟨rfl, z⟩
  have JR : SC w1 (w.heap.size) (sc0) := (SC.new rfl).below z
  have B := below_next (bel_alloc (Below.refl w.heap.size w)) z
  clear z
  have JR0 := JR.c0
  have JR1 := JR.c1
  have JR2 := JR.c2
  have JR3 := JR.c3
  have JRl := JR.lt
  have JRf0 := JR.f0
  have JRf1 := JR.f1
  have JRf2 := JR.f2
  have JRf3 := JR.f3
  have lb := B.size
  go_wp2_with fail
  refine (X2.out _).mono ?_
  rintro e w2 ⟨rfl, z⟩
  clear JR0 JR1 JR2 JR3 JRl JRf0 JRf1 JRf2 JRf3 lb
  replace JR := JR.below z
  replace B := below_next B z
  clear z
  have JR0 := JR.c0
  have JR1 := JR.c1
  have JR2 := JR.c2
  have JR3 := JR.c3
  have JRl := JR.lt
  have JRf0 := JR.f0
  have JRf1 := JR.f1
  have JRf2 := JR.f2
  have JRf3 := JR.f3
  have lb := B.size
  go_wp2
  exact bodyPost_ret (v := sv allX) (by simp [results, Tryz.results233, go_sem, JR0, JR1, JR2, JR3, JRl]; try rfl) rfl ⟨rfl, putS_below (allX) B (by omega)⟩
set_option maxHeartbeats 4000000 in
theorem cOf_any (n : B64) (w : World) : Calls Tryz.prog 11 #[.int .u64 (ub n)] w fun e w' => e = .returned (sv (ofX n)) ∧ Below w.heap.size w w' := by
  have X1 := fun W => tOf_any n W
  have X2 := fun W => sOf_any n W
  unfold tv at X1 X2
  dsimp only at X1 X2
  replace X1 := hid X1
  replace X2 := hid X2
  go_enter Tryz.func11, Tryz.ntmps11
  go_wp2_with fail
  refine (X1.out _).mono ?_
  rintro e w1 ⟨rfl, z⟩
  have JR : SC w1 (w.heap.size) (sc0) := (SC.new rfl).below z
  have B := below_next (bel_alloc (Below.refl w.heap.size w)) z
  clear z
  have JR0 := JR.c0
  have JR1 := JR.c1
  have JR2 := JR.c2
  have JR3 := JR.c3
  have JRl := JR.lt
  have JRf0 := JR.f0
  have JRf1 := JR.f1
  have JRf2 := JR.f2
  have JRf3 := JR.f3
  have lb := B.size
  go_wp2_with fail
  refine (X2.out _).mono ?_
  rintro e w2 ⟨rfl, z⟩
  clear JR0 JR1 JR2 JR3 JRl JRf0 JRf1 JRf2 JRf3 lb
  replace JR := JR.below z
  replace B := below_next B z
  clear z
  have JR0 := JR.c0
  have JR1 := JR.c1
  have JR2 := JR.c2
  have JR3 := JR.c3
  have JRl := JR.lt
  have JRf0 := JR.f0
  have JRf1 := JR.f1
  have JRf2 := JR.f2
  have JRf3 := JR.f3
  have lb := B.size
  go_wp2
  exact bodyPost_ret (v := sv (ofX n)) (by simp [results, Tryz.results11, go_sem, JR0, JR1, JR2, JR3, JRl]; try rfl) rfl ⟨rfl, putS_below (ofX n) B (by omega)⟩
set_option maxHeartbeats 4000000 in
theorem cIn_any (a b : Sc) (w : World) : Calls Tryz.prog 248 #[sv a, sv b] w fun e w' => e = .returned (.bool (inX a b)) ∧ Below w.heap.size w w' := by
  unfold inX
  have X1 := fun W => cMay_any a W
  have X2 := fun W => cMay_any b W
  have X3 := fun W => tIn_any a.1 b.1 W
  have X4 := fun W => sIn_any a.2 b.2 W
  generalize inSp a.2 b.2 = c4 at *
  generalize tin a.1 b.1 = c3 at *
  generalize mayX b = c2 at *
  generalize mayX a = c1 at *
  obtain ⟨⟨v, m⟩, l, h⟩ := a
  obtain ⟨⟨v', m'⟩, l', h'⟩ := b
  unfold sv at X1 X2 ⊢
  unfold tv at X3 X4
  dsimp only at X1 X2 X3 X4 ⊢
  cases c1
  · rw [Bool.false_and]
    replace X1 := hid X1
    go_enter Tryz.func248, Tryz.ntmps248
    go_wp2_with fail
    refine (X1.out _).mono ?_
    rintro e w1 ⟨rfl, z⟩
    have JX : SC w1 (w.heap.size) (((v, m), l, h)) := ((SC.new rfl).alloc _).below z
    have JY : SC w1 (w.heap.size + 1) (((v', m'), l', h')) := (SC.new (by simp)).below z
    have B := below_next (bel_alloc (bel_alloc (Below.refl w.heap.size w))) z
    clear z
    have JX0 := JX.c0
    have JX1 := JX.c1
    have JX2 := JX.c2
    have JX3 := JX.c3
    have JXl := JX.lt
    have JY0 := JY.c0
    have JY1 := JY.c1
    have JY2 := JY.c2
    have JY3 := JY.c3
    have JYl := JY.lt
    have lb := B.size
    go_wp2
    go_ret
    exact ⟨rfl, B⟩
  cases c2
  · rw [Bool.false_and, Bool.and_false]
    replace X1 := hid X1
    replace X2 := hid X2
    go_enter Tryz.func248, Tryz.ntmps248
    go_wp2_with fail
    refine (X1.out _).mono ?_
    rintro e w1 ⟨rfl, z⟩
    have JX : SC w1 (w.heap.size) (((v, m), l, h)) := ((SC.new rfl).alloc _).below z
    have JY : SC w1 (w.heap.size + 1) (((v', m'), l', h')) := (SC.new (by simp)).below z
    have B := below_next (bel_alloc (bel_alloc (Below.refl w.heap.size w))) z
    clear z
    have JX0 := JX.c0
    have JX1 := JX.c1
    have JX2 := JX.c2
    have JX3 := JX.c3
    have JXl := JX.lt
    have JY0 := JY.c0
    have JY1 := JY.c1
    have JY2 := JY.c2
    have JY3 := JY.c3
    have JYl := JY.lt
    have lb := B.size
    go_wp2_with fail
    refine (X2.out _).mono ?_
    rintro e w2 ⟨rfl, z⟩
    clear JX0 JX1 JX2 JX3 JXl JY0 JY1 JY2 JY3 JYl lb
    replace JX := JX.below z
    replace JY := JY.below z
    replace B := below_next B z
    clear z
    have JX0 := JX.c0
    have JX1 := JX.c1
    have JX2 := JX.c2
    have JX3 := JX.c3
    have JXl := JX.lt
    have JY0 := JY.c0
    have JY1 := JY.c1
    have JY2 := JY.c2
    have JY3 := JY.c3
    have JYl := JY.lt
    have lb := B.size
    go_wp2
    go_ret
    exact ⟨rfl, B⟩
  cases c3
  · rw [Bool.false_and, Bool.and_false, Bool.and_false]
    replace X1 := hid X1
    replace X2 := hid X2
    replace X3 := hid X3
    go_enter Tryz.func248, Tryz.ntmps248
    go_wp2_with fail
    refine (X1.out _).mono ?_
    rintro e w1 ⟨rfl, z⟩
    have JX : SC w1 (w.heap.size) (((v, m), l, h)) := ((SC.new rfl).alloc _).below z
    have JY : SC w1 (w.heap.size + 1) (((v', m'), l', h')) := (SC.new (by simp)).below z
    have B := below_next (bel_alloc (bel_alloc (Below.refl w.heap.size w))) z
    clear z
    have JX0 := JX.c0
    have JX1 := JX.c1
    have JX2 := JX.c2
    have JX3 := JX.c3
    have JXl := JX.lt
    have JY0 := JY.c0
    have JY1 := JY.c1
    have JY2 := JY.c2
    have JY3 := JY.c3
    have JYl := JY.lt
    have lb := B.size
    go_wp2_with fail
    refine (X2.out _).mono ?_
    rintro e w2 ⟨rfl, z⟩
    clear JX0 JX1 JX2 JX3 JXl JY0 JY1 JY2 JY3 JYl lb
    replace JX := JX.below z
    replace JY := JY.below z
    replace B := below_next B z
    clear z
    have JX0 := JX.c0
    have JX1 := JX.c1
    have JX2 := JX.c2
    have JX3 := JX.c3
    have JXl := JX.lt
    have JY0 := JY.c0
    have JY1 := JY.c1
    have JY2 := JY.c2
    have JY3 := JY.c3
    have JYl := JY.lt
    have lb := B.size
    go_wp2_with fail
    refine (X3.out _).mono ?_
    rintro e w3 ⟨rfl, z⟩
    clear JX0 JX1 JX2 JX3 JXl JY0 JY1 JY2 JY3 JYl lb
    replace JX := JX.below z
    replace JY := JY.below z
    replace B := below_next B z
    clear z
    have JX0 := JX.c0
    have JX1 := JX.c1
    have JX2 := JX.c2
    have JX3 := JX.c3
    have JXl := JX.lt
    have JY0 := JY.c0
    have JY1 := JY.c1
    have JY2 := JY.c2
    have JY3 := JY.c3
    have JYl := JY.lt
    have lb := B.size
    go_wp2
    go_ret
    exact ⟨rfl, B⟩
  · rw [Bool.true_and, Bool.true_and, Bool.true_and]
    replace X1 := hid X1
    replace X2 := hid X2
    replace X3 := hid X3
    replace X4 := hid X4
    go_enter Tryz.func248, Tryz.ntmps248
    go_wp2_with fail
    refine (X1.out _).mono ?_
    rintro e w1 ⟨rfl, z⟩
    have JX : SC w1 (w.heap.size) (((v, m), l, h)) := ((SC.new rfl).alloc _).below z
    have JY : SC w1 (w.heap.size + 1) (((v', m'), l', h')) := (SC.new (by simp)).below z
    have B := below_next (bel_alloc (bel_alloc (Below.refl w.heap.size w))) z
    clear z
    have JX0 := JX.c0
    have JX1 := JX.c1
    have JX2 := JX.c2
    have JX3 := JX.c3
    have JXl := JX.lt
    have JY0 := JY.c0
    have JY1 := JY.c1
    have JY2 := JY.c2
    have JY3 := JY.c3
    have JYl := JY.lt
    have lb := B.size
    go_wp2_with fail
    refine (X2.out _).mono ?_
    rintro e w2 ⟨rfl, z⟩
    clear JX0 JX1 JX2 JX3 JXl JY0 JY1 JY2 JY3 JYl lb
    replace JX := JX.below z
    replace JY := JY.below z
    replace B := below_next B z
    clear z
    have JX0 := JX.c0
    have JX1 := JX.c1
    have JX2 := JX.c2
    have JX3 := JX.c3
    have JXl := JX.lt
    have JY0 := JY.c0
    have JY1 := JY.c1
    have JY2 := JY.c2
    have JY3 := JY.c3
    have JYl := JY.lt
    have lb := B.size
    go_wp2_with fail
    refine (X3.out _).mono ?_
    rintro e w3 ⟨rfl, z⟩
    clear JX0 JX1 JX2 JX3 JXl JY0 JY1 JY2 JY3 JYl lb
    replace JX := JX.below z
    replace JY := JY.below z
    replace B := below_next B z
    clear z
    have JX0 := JX.c0
    have JX1 := JX.c1
    have JX2 := JX.c2
    have JX3 := JX.c3
    have JXl := JX.lt
    have JY0 := JY.c0
    have JY1 := JY.c1
    have JY2 := JY.c2
    have JY3 := JY.c3
    have JYl := JY.lt
    have lb := B.size
    go_wp2_with fail
    refine (X4.out _).mono ?_
    rintro e w4 ⟨rfl, z⟩
    clear JX0 JX1 JX2 JX3 JXl JY0 JY1 JY2 JY3 JYl lb
    replace JX := JX.below z
    replace JY := JY.below z
    replace B := below_next B z
    clear z
    have JX0 := JX.c0
    have JX1 := JX.c1
    have JX2 := JX.c2
    have JX3 := JX.c3
    have JXl := JX.lt
    have JY0 := JY.c0
    have JY1 := JY.c1
    have JY2 := JY.c2
    have JY3 := JY.c3
    have JYl := JY.lt
    have lb := B.size
    go_wp2
    go_ret
    exact ⟨rfl, B⟩
end Go.Proofs.YtjcnpjidkimldaaGreatDoor
