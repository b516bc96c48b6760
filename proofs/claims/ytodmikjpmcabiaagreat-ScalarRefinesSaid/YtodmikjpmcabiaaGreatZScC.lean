import Derived.Test.YtodmikjpmcabiaaGreatZScB
import Derived.Test.YtodmikjpmcabiaaGreatZScQ
namespace Go.Proofs.YtodmikjpmcabiaaGreat
set_option linter.unusedSimpArgs false
set_option linter.unusedVariables false
set_option maxRecDepth 100000
open Go.ChangeShapes Go.WideShapes Go.ChangeAt Go.RowKit

theorem mayX_is (x : Sc) : mayX x = ((settle x).isSome && (optS (settle x) == x)) := by
  rw [Bool.eq_iff_iff, mayX_settle]
  cases h : settle x with
  | none => simp
  | some y => simp [optS]
set_option maxHeartbeats 4000000 in
theorem cMay_any (x : Sc) (w : World) : Calls Tryz.prog 22 #[sv x] w fun e w' => e = .returned (.bool (mayX x)) ∧ Below w.heap.size w w' := by
  rw [mayX_is]
  have X1 := fun W => cSettle_any x.1 x.2 W
  rw [show (x.1, x.2) = x from rfl] at X1
  generalize optS (settle x) = r at *
  have E := fun W => eq_sc r x W
  generalize (settle x).isSome = k at *
  obtain ⟨⟨v, m⟩, l, h⟩ := x
  cases k
  · unfold sv tv at X1
    unfold sv at E
    dsimp only at X1 E
    rw [Bool.false_and]
    replace X1 := hid X1
    unfold sv
    go_enter Tryz.func22, Tryz.ntmps22
    go_wp2_with fail
    refine (X1.out _).mono ?_
    rintro e w1 ⟨rfl, z⟩
    have JX : SC w1 (w.heap.size) (((v, m), l, h)) := (SC.new rfl).below z
    have B := below_next (bel_alloc (Below.refl w.heap.size w)) z
    clear z
    obtain ⟨JXl, JX0, JX1, JX2, JX3⟩ := JX.k
    have lb := B.size
    go_wp2
    go_ret
    exact ⟨rfl, bel_alloc B⟩
  · unfold sv tv at X1
    unfold sv at E
    dsimp only at X1 E
    rw [Bool.true_and]
    replace X1 := hid X1
    unfold sv
    go_enter Tryz.func22, Tryz.ntmps22
    go_wp2_with fail
    refine (X1.out _).mono ?_
    rintro e w1 ⟨rfl, z⟩
    have JX : SC w1 (w.heap.size) (((v, m), l, h)) := (SC.new rfl).below z
    have B := below_next (bel_alloc (Below.refl w.heap.size w)) z
    clear z
    obtain ⟨JXl, JX0, JX1, JX2, JX3⟩ := JX.k
    have lb := B.size
    go_wp2
    go_ret
    exact ⟨rfl, bel_alloc B⟩
set_option maxHeartbeats 4000000 in
theorem cAll_any  (w : World) : Calls Tryz.prog 18 #[] w fun e w' => e = .returned (sv allX) ∧ Below w.heap.size w w' := by
  have X1 := fun W => tAll_any W
  have X2 := fun W => sAll_any W
  unfold tv at X1 X2
  dsimp only at X1 X2
  replace X1 := hid X1
  replace X2 := hid X2
  go_enter Tryz.func18, Tryz.ntmps18
  go_wp2_with fail
  refine (X1.out _).mono ?_
  rintro e w1 ⟨rfl, z⟩
  have JR : SC w1 (w.heap.size) (sc0) := (SC.new rfl).below z
  have B := below_next (bel_alloc (Below.refl w.heap.size w)) z
  clear z
  obtain ⟨JRl, JR0, JR1, JR2, JR3, JRf0, JRf1, JRf2, JRf3⟩ := id JR
  have lb := B.size
  go_wp2_with fail
  refine (X2.out _).mono ?_
  rintro e w2 ⟨rfl, z⟩
  clear JR0 JR1 JR2 JR3 JRl JRf0 JRf1 JRf2 JRf3 lb
  replace JR := JR.below z
  replace B := below_next B z
  clear z
  obtain ⟨JRl, JR0, JR1, JR2, JR3, JRf0, JRf1, JRf2, JRf3⟩ := id JR
  have lb := B.size
  go_wp2
  exact bodyPost_ret (v := sv allX) (by simp [results, Tryz.results18, go_sem, JR0, JR1, JR2, JR3, JRl]; try rfl) rfl ⟨rfl, putS_below (allX) B (by omega)⟩
set_option maxHeartbeats 4000000 in
theorem cOf_any (n : B64) (w : World) : Calls Tryz.prog 16 #[.int .u64 (ub n)] w fun e w' => e = .returned (sv (ofX n)) ∧ Below w.heap.size w w' := by
  have X1 := fun W => tOf_any n W
  have X2 := fun W => sOf_any n W
  unfold tv at X1 X2
  dsimp only at X1 X2
  replace X1 := hid X1
  replace X2 := hid X2
  go_enter Tryz.func16, Tryz.ntmps16
  go_wp2_with fail
  refine (X1.out _).mono ?_
  rintro e w1 ⟨rfl, z⟩
  have JR : SC w1 (w.heap.size) (sc0) := (SC.new rfl).below z
  have B := below_next (bel_alloc (Below.refl w.heap.size w)) z
  clear z
  obtain ⟨JRl, JR0, JR1, JR2, JR3, JRf0, JRf1, JRf2, JRf3⟩ := id JR
  have lb := B.size
  go_wp2_with fail
  refine (X2.out _).mono ?_
  rintro e w2 ⟨rfl, z⟩
  clear JR0 JR1 JR2 JR3 JRl JRf0 JRf1 JRf2 JRf3 lb
  replace JR := JR.below z
  replace B := below_next B z
  clear z
  obtain ⟨JRl, JR0, JR1, JR2, JR3, JRf0, JRf1, JRf2, JRf3⟩ := id JR
  have lb := B.size
  go_wp2
  exact bodyPost_ret (v := sv (ofX n)) (by simp [results, Tryz.results16, go_sem, JR0, JR1, JR2, JR3, JRl]; try rfl) rfl ⟨rfl, putS_below (ofX n) B (by omega)⟩
end Go.Proofs.YtodmikjpmcabiaaGreat
