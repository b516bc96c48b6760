import Derived.Test.YtodmikjpmcabiaaGreatZScD
namespace Go.Proofs.YtodmikjpmcabiaaGreat
set_option linter.unusedSimpArgs false
set_option linter.unusedVariables false
set_option maxRecDepth 100000
open Go.ChangeShapes Go.WideShapes Go.ChangeAt Go.RowKit

set_option maxHeartbeats 4000000 in
theorem cSingle_any (x : Sc) (w : World) : Calls Tryz.prog 106 #[sv x] w fun e w' => e = .returned (.tuple #[.int .u64 (ub x.2.1), .bool (singleX x)]) ∧ Below w.heap.size w w' := by
  unfold singleX
  obtain ⟨⟨v, m⟩, l, h⟩ := x
  unfold sv
  dsimp only
  go_enter Tryz.func106, Tryz.ntmps106
  go_wp2_with fail
  have c0 := (SC.new (w := w) (x := ((v, m), l, h)) (t := 28) rfl).c2
  have c1 := (SC.new (w := w) (x := ((v, m), l, h)) (t := 28) rfl).c3
  have hB := bel_alloc (o := .cells #[.int .u64 (ub v), .int .u64 (ub m), .int .u64 (ub l), .int .u64 (ub h)] 28) (Below.refl w.heap.size w)
  dsimp only at c0 c1
  generalize w.alloc (.cells #[.int .u64 (ub v), .int .u64 (ub m), .int .u64 (ub l), .int .u64 (ub h)] 28) = w1 at *
  go_quiet (fail)
  go_wp2
  exact bodyPost_ret (v := .tuple #[.int .u64 (ub l), .bool (l == h)]) (by simp [results, Tryz.results106, go_sem]; try rfl) rfl ⟨rfl, hB.trans ((below_drewN _ _ _).mono hB.size)⟩
set_option maxHeartbeats 4000000 in
theorem cHalf_any (x : Sc) (ht : tmay x.1 = true) (w : World) : Calls Tryz.prog 70 #[sv x] w fun e w' => e = .returned (sv (halfX x)) ∧ Below w.heap.size w w' := by
  have X1 := fun W => cBelow_any 32 W
  rw [below32] at X1
  have X2 := fun W => tCut_any x.1 32 W
  have e1 : cutT x.1 32 = lowT x.1 32 := (if_pos rfl).trans (if_pos ht)
  rw [e1] at X2
  clear e1 ht
  generalize cutE x.1 32 = E at X2
  have X3 := fun W => cSettle_any (lowT x.1 32) (belowX false).2 W
  have HR : (ub x.2.2 ≤ ub (belowX false).2.2 → halfX x = x) ∧ (¬ ub x.2.2 ≤ ub (belowX false).2.2 → halfX x = optS (settle (lowT x.1 32, (belowX false).2))) := by
    rw [ub_le]; exact ⟨fun h => if_pos h, fun h => if_neg h⟩
  generalize halfX x = R at *
  generalize (settle (lowT x.1 32, (belowX false).2)).isSome = K at *
  generalize optS (settle (lowT x.1 32, (belowX false).2)) = Z at *
  generalize belowX false = y at *
  generalize lowT x.1 32 = T at *
  obtain ⟨⟨v, m⟩, l, h⟩ := x
  unfold sv at X1 X3 ⊢
  unfold tv at X2 X3
  dsimp only at X1 X2 X3 HR ⊢
  replace X1 := hid X1
  replace X2 := hid X2
  replace X3 := hid X3
  by_cases hle : ub h ≤ ub y.2.2
  · have hr := HR.1 hle
    clear HR
    subst hr
    go_enter Tryz.func70, Tryz.ntmps70
    go_wp2_with fail
    refine (X1.out _).mono ?_
    rintro e w1 ⟨rfl, z⟩
    have JX : SC w1 (w.heap.size) (((v, m), l, h)) := ((SC.new rfl).alloc _).below z
    have JR : SC w1 (w.heap.size + 1) (sc0) := (SC.new (by simp)).below z
    have B := below_next (bel_alloc (bel_alloc (Below.refl w.heap.size w))) z
    clear z
    obtain ⟨JXl, JX0, JX1, JX2, JX3⟩ := JX.k
    obtain ⟨JRl, JR0, JR1, JR2, JR3, JRf0, JRf1, JRf2, JRf3⟩ := id JR
    have lb := B.size
    go_wp2
    exact bodyPost_ret (v := sv ((v, m), l, h)) (by simp [results, Tryz.results70, go_sem, JX0, JX1, JX2, JX3, JXl, JR0, JR1, JR2, JR3, JRl]; try rfl) rfl ⟨rfl, bel_alloc (putS_below ((v, m), l, h) B (by omega))⟩
  · have hr := HR.2 hle
    clear HR
    subst hr
    go_enter Tryz.func70, Tryz.ntmps70
    go_wp2_with fail
    refine (X1.out _).mono ?_
    rintro e w1 ⟨rfl, z⟩
    have JX : SC w1 (w.heap.size) (((v, m), l, h)) := ((SC.new rfl).alloc _).below z
    have JR : SC w1 (w.heap.size + 1) (sc0) := (SC.new (by simp)).below z
    have B := below_next (bel_alloc (bel_alloc (Below.refl w.heap.size w))) z
    clear z
    obtain ⟨JXl, JX0, JX1, JX2, JX3⟩ := JX.k
    obtain ⟨JRl, JR0, JR1, JR2, JR3, JRf0, JRf1, JRf2, JRf3⟩ := id JR
    have lb := B.size
    go_wp2_with fail
    refine (X2.out _).mono ?_
    rintro e w2 ⟨rfl, z⟩
    clear JX0 JX1 JX2 JX3 JXl JR0 JR1 JR2 JR3 JRl JRf0 JRf1 JRf2 JRf3 lb
    replace JX := (JX.alloc _).below z
    replace JR := (JR.alloc _).below z
    have JY : SC w2 (w1.heap.size) (y) := (SC.new rfl).below z
    replace B := below_next (bel_alloc B) z
    clear z
    obtain ⟨JXl, JX0, JX1, JX2, JX3⟩ := JX.k
    obtain ⟨JRl, JR0, JR1, JR2, JR3, JRf0, JRf1, JRf2, JRf3⟩ := id JR
    obtain ⟨JYl, JY0, JY1, JY2, JY3⟩ := JY.k
    have lb := B.size
    go_wp2_with fail
    refine (X3.out _).mono ?_
    rintro e w3 ⟨rfl, z⟩
    clear JX0 JX1 JX2 JX3 JXl JR0 JR1 JR2 JR3 JRl JRf0 JRf1 JRf2 JRf3 JY0 JY1 JY2 JY3 JYl lb
    replace JX := (JX.alloc _).below z
    replace JR := (JR.alloc _).below z
    replace JY := (JY.alloc _).below z
    have JT : BC w3 (w2.heap.size) (T) := (BC.new rfl).below z
    replace B := below_next (bel_alloc B) z
    clear z
    obtain ⟨JXl, JX0, JX1, JX2, JX3⟩ := JX.k
    obtain ⟨JRl, JR0, JR1, JR2, JR3, JRf0, JRf1, JRf2, JRf3⟩ := id JR
    obtain ⟨JYl, JY0, JY1, JY2, JY3⟩ := JY.k
    have JT0 := JT.c0
    have JT1 := JT.c1
    have JTl := JT.lt
    have lb := B.size
    go_wp2
    exact bodyPost_ret (v := sv R) (by simp [results, Tryz.results70, go_sem, JX0, JX1, JX2, JX3, JXl, JR0, JR1, JR2, JR3, JRl, JY0, JY1, JY2, JY3, JYl, JT0, JT1, JTl]; try rfl) rfl ⟨rfl, bel_alloc (putS_below R B (by omega))⟩
end Go.Proofs.YtodmikjpmcabiaaGreat
