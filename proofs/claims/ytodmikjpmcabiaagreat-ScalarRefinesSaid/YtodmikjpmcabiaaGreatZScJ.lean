import Derived.Test.YtodmikjpmcabiaaGreatZScI
import Derived.Deep.RegionLaw
import Derived.Deep.RegionHeld3
namespace Go.Proofs.YtodmikjpmcabiaaGreat
set_option linter.unusedSimpArgs false
set_option linter.unusedVariables false
set_option maxRecDepth 100000
open Go.ChangeShapes Go.WideShapes Go.ChangeAt Go.RowKit

def abvOk (a b : Sc) (k : B64) : Bool := !(decide (ub (allX.2.2 - k) < ub b.2.1) || decide (ub a.2.2 < ub k))
def abvA (a b : Sc) (k : B64) : Sc := (a.1, (bmax a.2.1 (b.2.1 + k), a.2.2))
def abvB (a b : Sc) (k : B64) : Sc := (b.1, (b.2.1, bmin b.2.2 (a.2.2 - k)))
def abvT (a b : Sc) (k : B64) : Sc × Sc × Bool :=
  if abvOk a b k = true then (optS (settle (abvA a b k)), optS (settle (abvB a b k)), (settle (abvA a b k)).isSome && (settle (abvB a b k)).isSome) else (sc0, sc0, false)
def tri (r : Sc × Sc × Bool) : Value := .tuple #[sv r.1, sv r.2.1, .bool r.2.2]
set_option maxHeartbeats 8000000 in
theorem cAbove_no1 (a b : Sc) (k : B64) (hn : ub (allX.2.2 - k) < ub b.2.1) (w : World) : Calls Tryz.prog 96 #[sv a, sv b, .int .u64 (ub k)] w fun e w' => e = .returned (tri (sc0, sc0, false)) ∧ Below w.heap.size w w' := by
  have X1 := fun W => cAll_any W
  have HF := fun W => fld2 allX W
  have HF3 := fun W => fld3 allX.2.1 allX.2.2 W
  generalize allX = y at *
  obtain ⟨⟨v, m⟩, l, h⟩ := a
  obtain ⟨⟨v', m'⟩, l', h'⟩ := b
  unfold sv at X1 ⊢
  unfold tri
  dsimp only at X1 hn ⊢
  replace X1 := hid X1
  go_enter Tryz.func96, Tryz.ntmps96
  go_wp2_with fail
  have JX : SC ((((w.alloc (.cells #[.int .u64 (ub v), .int .u64 (ub m), .int .u64 (ub l), .int .u64 (ub h)] 28)).alloc (.cells #[.int .u64 (ub v'), .int .u64 (ub m'), .int .u64 (ub l'), .int .u64 (ub h')] 28)).alloc (.cells #[.int .u64 0, .int .u64 0, .int .u64 0, .int .u64 0] 28)).alloc (.cells #[.int .u64 0, .int .u64 0, .int .u64 0, .int .u64 0] 28)) w.heap.size ((v, m), l, h) := (((SC.new (x := ((v, m), l, h)) rfl).alloc _).alloc _).alloc _
  have JY : SC ((((w.alloc (.cells #[.int .u64 (ub v), .int .u64 (ub m), .int .u64 (ub l), .int .u64 (ub h)] 28)).alloc (.cells #[.int .u64 (ub v'), .int .u64 (ub m'), .int .u64 (ub l'), .int .u64 (ub h')] 28)).alloc (.cells #[.int .u64 0, .int .u64 0, .int .u64 0, .int .u64 0] 28)).alloc (.cells #[.int .u64 0, .int .u64 0, .int .u64 0, .int .u64 0] 28)) (w.heap.size + 1) ((v', m'), l', h') := ((SC.new (x := ((v', m'), l', h')) (by simp)).alloc _).alloc _
  have JR : SC ((((w.alloc (.cells #[.int .u64 (ub v), .int .u64 (ub m), .int .u64 (ub l), .int .u64 (ub h)] 28)).alloc (.cells #[.int .u64 (ub v'), .int .u64 (ub m'), .int .u64 (ub l'), .int .u64 (ub h')] 28)).alloc (.cells #[.int .u64 0, .int .u64 0, .int .u64 0, .int .u64 0] 28)).alloc (.cells #[.int .u64 0, .int .u64 0, .int .u64 0, .int .u64 0] 28)) (w.heap.size + 1 + 1) sc0 := (SC.new (x := sc0) (by simp)).alloc _
  have JRb : SC ((((w.alloc (.cells #[.int .u64 (ub v), .int .u64 (ub m), .int .u64 (ub l), .int .u64 (ub h)] 28)).alloc (.cells #[.int .u64 (ub v'), .int .u64 (ub m'), .int .u64 (ub l'), .int .u64 (ub h')] 28)).alloc (.cells #[.int .u64 0, .int .u64 0, .int .u64 0, .int .u64 0] 28)).alloc (.cells #[.int .u64 0, .int .u64 0, .int .u64 0, .int .u64 0] 28)) (w.heap.size + 1 + 1 + 1) sc0 := SC.new (x := sc0) (by simp)
  have B : Below w.heap.size w ((((w.alloc (.cells #[.int .u64 (ub v), .int .u64 (ub m), .int .u64 (ub l), .int .u64 (ub h)] 28)).alloc (.cells #[.int .u64 (ub v'), .int .u64 (ub m'), .int .u64 (ub l'), .int .u64 (ub h')] 28)).alloc (.cells #[.int .u64 0, .int .u64 0, .int .u64 0, .int .u64 0] 28)).alloc (.cells #[.int .u64 0, .int .u64 0, .int .u64 0, .int .u64 0] 28)) := bel_alloc (bel_alloc (bel_alloc (bel_alloc (Below.refl _ _))))
  generalize (((w.alloc (.cells #[.int .u64 (ub v), .int .u64 (ub m), .int .u64 (ub l), .int .u64 (ub h)] 28)).alloc (.cells #[.int .u64 (ub v'), .int .u64 (ub m'), .int .u64 (ub l'), .int .u64 (ub h')] 28)).alloc (.cells #[.int .u64 0, .int .u64 0, .int .u64 0, .int .u64 0] 28)).alloc (.cells #[.int .u64 0, .int .u64 0, .int .u64 0, .int .u64 0] 28) = w0 at *
  obtain ⟨JXl, JX0, JX1, JX2, JX3⟩ := JX.k
  obtain ⟨JYl, JY0, JY1, JY2, JY3⟩ := JY.k
  obtain ⟨JRl, JR0, JR1, JR2, JR3, JRf0, JRf1, JRf2, JRf3⟩ := id JR
  obtain ⟨JRbl, JRb0, JRb1, JRb2, JRb3, JRbf0, JRbf1, JRbf2, JRbf3⟩ := id JRb
  have lb := B.size
  go_wp2_with fail
  clear JX0 JX1 JX2 JX3 JXl JY0 JY1 JY2 JY3 JYl JR0 JR1 JR2 JR3 JRl JRf0 JRf1 JRf2 JRf3 JRb0 JRb1 JRb2 JRb3 JRbl JRbf0 JRbf1 JRbf2 JRbf3 lb
  replace JX := JX.below (below_dr w0)
  replace JY := JY.below (below_dr w0)
  replace JR := JR.below (below_dr w0)
  replace JRb := JRb.below (below_dr w0)
  replace B := below_next B (below_dr w0)
  obtain ⟨JXdl, JXd0, JXd1, JXd2, JXd3, JXdf0, JXdf1, JXdf2, JXdf3⟩ := id JX
  obtain ⟨JYdl, JYd0, JYd1, JYd2, JYd3, JYdf0, JYdf1, JYdf2, JYdf3⟩ := id JY
  obtain ⟨JRdl, JRd0, JRd1, JRd2, JRd3, JRdf0, JRdf1, JRdf2, JRdf3⟩ := id JR
  obtain ⟨JRbdl, JRbd0, JRbd1, JRbd2, JRbd3, JRbdf0, JRbdf1, JRbdf2, JRbdf3⟩ := id JRb
  have ld := B.size
  have hu : undef = Value.tuple #[] := rfl
  apply cutF (F := fun W' => SC W' (w.heap.size) ((v, m), l, h) ∧ SC W' (w.heap.size + 1) ((v', m'), l', h') ∧ SC W' (w.heap.size + 1 + 1) sc0 ∧ SC W' (w.heap.size + 1 + 1 + 1) sc0 ∧ Below w.heap.size w W')
  · first | (go_region_law (first | (go_simp; go_at_call 18; (with_reducible refine (X1.out _).mono ?_); rintro e wq1 ⟨rfl, bq1⟩; have JX_1 := JX.below bq1; have JXq10 := JX_1.c0; have JXq11 := JX_1.c1; have JXq12 := JX_1.c2; have JXq13 := JX_1.c3; have JXq1l := JX_1.lt; have JXq1f0 := JX_1.f0; have JXq1f1 := JX_1.f1; have JXq1f2 := JX_1.f2; have JXq1f3 := JX_1.f3; have JY_1 := JY.below bq1; have JYq10 := JY_1.c0; have JYq11 := JY_1.c1; have JYq12 := JY_1.c2; have JYq13 := JY_1.c3; have JYq1l := JY_1.lt; have JYq1f0 := JY_1.f0; have JYq1f1 := JY_1.f1; have JYq1f2 := JY_1.f2; have JYq1f3 := JY_1.f3; have JR_1 := JR.below bq1; have JRq10 := JR_1.c0; have JRq11 := JR_1.c1; have JRq12 := JR_1.c2; have JRq13 := JR_1.c3; have JRq1l := JR_1.lt; have JRq1f0 := JR_1.f0; have JRq1f1 := JR_1.f1; have JRq1f2 := JR_1.f2; have JRq1f3 := JR_1.f3; have JRb_1 := JRb.below bq1; have JRbq10 := JRb_1.c0; have JRbq11 := JRb_1.c1; have JRbq12 := JRb_1.c2; have JRbq13 := JRb_1.c3; have JRbq1l := JRb_1.lt; have JRbq1f0 := JRb_1.f0; have JRbq1f1 := JRb_1.f1; have JRbq1f2 := JRb_1.f2; have JRbq1f3 := JRb_1.f3; have B_1 := below_next B bq1; have lq1 := B_1.size))) | fail
    all_goals exact ⟨⟨JX_1, JY_1, JR_1, JRb_1, B_1⟩, rfl⟩
  clear JXd0 JXd1 JXd2 JXd3 JXdl JXdf0 JXdf1 JXdf2 JXdf3 JYd0 JYd1 JYd2 JYd3 JYdl JYdf0 JYdf1 JYdf2 JYdf3 JRd0 JRd1 JRd2 JRd3 JRdl JRdf0 JRdf1 JRdf2 JRdf3 JRbd0 JRbd1 JRbd2 JRbd3 JRbdl JRbdf0 JRbdf1 JRbdf2 JRbdf3 ld hu
  clear JX JY JR JRb B
  intro w1 ⟨JX, JY, JR, JRb, B⟩
  obtain ⟨JXl, JX0, JX1, JX2, JX3⟩ := JX.k
  obtain ⟨JYl, JY0, JY1, JY2, JY3⟩ := JY.k
  obtain ⟨JRl, JR0, JR1, JR2, JR3, JRf0, JRf1, JRf2, JRf3⟩ := id JR
  obtain ⟨JRbl, JRb0, JRb1, JRb2, JRb3, JRbf0, JRbf1, JRbf2, JRbf3⟩ := id JRb
  have lb := B.size
  go_wp2
  exact bodyPost_ret (v := .tuple #[sv sc0, sv sc0, .bool false]) (by simp [results, Tryz.results96, go_sem, JX0, JX1, JX2, JX3, JXl, JY0, JY1, JY2, JY3, JYl, JR0, JR1, JR2, JR3, JRl, JRb0, JRb1, JRb2, JRb3, JRbl]; try first | rfl | exact ⟨rfl, rfl⟩) rfl ⟨rfl, putS_below sc0 (putS_below sc0 B (by omega)) (by omega)⟩
set_option maxHeartbeats 8000000 in
theorem cAbove_no2 (a b : Sc) (k : B64) (hg : ¬ ub (allX.2.2 - k) < ub b.2.1) (hn : ub a.2.2 < ub k) (w : World) : Calls Tryz.prog 96 #[sv a, sv b, .int .u64 (ub k)] w fun e w' => e = .returned (tri (sc0, sc0, false)) ∧ Below w.heap.size w w' := by
  have X1 := fun W => cAll_any W
  have HF := fun W => fld2 allX W
  have HF3 := fun W => fld3 allX.2.1 allX.2.2 W
  generalize allX = y at *
  obtain ⟨⟨v, m⟩, l, h⟩ := a
  obtain ⟨⟨v', m'⟩, l', h'⟩ := b
  unfold sv at X1 ⊢
  unfold tri
  dsimp only at X1 hn ⊢
  replace X1 := hid X1
  go_enter Tryz.func96, Tryz.ntmps96
  go_wp2_with fail
  have JX : SC ((((w.alloc (.cells #[.int .u64 (ub v), .int .u64 (ub m), .int .u64 (ub l), .int .u64 (ub h)] 28)).alloc (.cells #[.int .u64 (ub v'), .int .u64 (ub m'), .int .u64 (ub l'), .int .u64 (ub h')] 28)).alloc (.cells #[.int .u64 0, .int .u64 0, .int .u64 0, .int .u64 0] 28)).alloc (.cells #[.int .u64 0, .int .u64 0, .int .u64 0, .int .u64 0] 28)) w.heap.size ((v, m), l, h) := (((SC.new (x := ((v, m), l, h)) rfl).alloc _).alloc _).alloc _
  have JY : SC ((((w.alloc (.cells #[.int .u64 (ub v), .int .u64 (ub m), .int .u64 (ub l), .int .u64 (ub h)] 28)).alloc (.cells #[.int .u64 (ub v'), .int .u64 (ub m'), .int .u64 (ub l'), .int .u64 (ub h')] 28)).alloc (.cells #[.int .u64 0, .int .u64 0, .int .u64 0, .int .u64 0] 28)).alloc (.cells #[.int .u64 0, .int .u64 0, .int .u64 0, .int .u64 0] 28)) (w.heap.size + 1) ((v', m'), l', h') := ((SC.new (x := ((v', m'), l', h')) (by simp)).alloc _).alloc _
  have JR : SC ((((w.alloc (.cells #[.int .u64 (ub v), .int .u64 (ub m), .int .u64 (ub l), .int .u64 (ub h)] 28)).alloc (.cells #[.int .u64 (ub v'), .int .u64 (ub m'), .int .u64 (ub l'), .int .u64 (ub h')] 28)).alloc (.cells #[.int .u64 0, .int .u64 0, .int .u64 0, .int .u64 0] 28)).alloc (.cells #[.int .u64 0, .int .u64 0, .int .u64 0, .int .u64 0] 28)) (w.heap.size + 1 + 1) sc0 := (SC.new (x := sc0) (by simp)).alloc _
  have JRb : SC ((((w.alloc (.cells #[.int .u64 (ub v), .int .u64 (ub m), .int .u64 (ub l), .int .u64 (ub h)] 28)).alloc (.cells #[.int .u64 (ub v'), .int .u64 (ub m'), .int .u64 (ub l'), .int .u64 (ub h')] 28)).alloc (.cells #[.int .u64 0, .int .u64 0, .int .u64 0, .int .u64 0] 28)).alloc (.cells #[.int .u64 0, .int .u64 0, .int .u64 0, .int .u64 0] 28)) (w.heap.size + 1 + 1 + 1) sc0 := SC.new (x := sc0) (by simp)
  have B : Below w.heap.size w ((((w.alloc (.cells #[.int .u64 (ub v), .int .u64 (ub m), .int .u64 (ub l), .int .u64 (ub h)] 28)).alloc (.cells #[.int .u64 (ub v'), .int .u64 (ub m'), .int .u64 (ub l'), .int .u64 (ub h')] 28)).alloc (.cells #[.int .u64 0, .int .u64 0, .int .u64 0, .int .u64 0] 28)).alloc (.cells #[.int .u64 0, .int .u64 0, .int .u64 0, .int .u64 0] 28)) := bel_alloc (bel_alloc (bel_alloc (bel_alloc (Below.refl _ _))))
  generalize (((w.alloc (.cells #[.int .u64 (ub v), .int .u64 (ub m), .int .u64 (ub l), .int .u64 (ub h)] 28)).alloc (.cells #[.int .u64 (ub v'), .int .u64 (ub m'), .int .u64 (ub l'), .int .u64 (ub h')] 28)).alloc (.cells #[.int .u64 0, .int .u64 0, .int .u64 0, .int .u64 0] 28)).alloc (.cells #[.int .u64 0, .int .u64 0, .int .u64 0, .int .u64 0] 28) = w0 at *
  obtain ⟨JXl, JX0, JX1, JX2, JX3⟩ := JX.k
  obtain ⟨JYl, JY0, JY1, JY2, JY3⟩ := JY.k
  obtain ⟨JRl, JR0, JR1, JR2, JR3, JRf0, JRf1, JRf2, JRf3⟩ := id JR
  obtain ⟨JRbl, JRb0, JRb1, JRb2, JRb3, JRbf0, JRbf1, JRbf2, JRbf3⟩ := id JRb
  have lb := B.size
  go_wp2_with fail
  clear JX0 JX1 JX2 JX3 JXl JY0 JY1 JY2 JY3 JYl JR0 JR1 JR2 JR3 JRl JRf0 JRf1 JRf2 JRf3 JRb0 JRb1 JRb2 JRb3 JRbl JRbf0 JRbf1 JRbf2 JRbf3 lb
  have q0 := JY.c2
  have q1 := JX.c3
  try dsimp only at q0 q1
  have hd1 : decide (ub (y.2.2 - k) < ub l') = false := by rw [decide_eq_false_iff_not]; omega
  have hd2 : decide (ub h < ub k) = true := by rw [decide_eq_true_eq]; omega
  go_region_held3 (fun w' => w'.cell? ⟨w.heap.size + 1, 2, none⟩ = some (.int .u64 (ub ((v', m'), l', h').2.1)) ∧ w'.cell? ⟨w.heap.size, 3, none⟩ = some (.int .u64 (ub ((v, m), l, h).2.2)) ∧ Below w0.heap.size w0 w')
    (first | (go_split_ands; with_reducible exact ⟨by with_reducible assumption, by with_reducible assumption, by with_reducible assumption⟩) | (with_reducible exact ⟨cn bq (by with_reducible assumption), cn bq (by with_reducible assumption), below_next (by with_reducible assumption) bq⟩) | (with_reducible exact ⟨cn (below_dr w0) q0, cn (below_dr w0) q1, below_dr w0⟩))
    (first | (go_at_call 18; go_split_ands; (with_reducible refine (X1.out _).mono ?_); rintro e wq ⟨rfl, bq⟩))
  go_split_ands
  have zq : Below w0.heap.size w0 wq := by with_reducible assumption
  replace JX := JX.below zq
  replace JY := JY.below zq
  replace JR := JR.below zq
  replace JRb := JRb.below zq
  replace B := below_next B zq
  clear zq bq q0 q1
  skip
  obtain ⟨JXl, JX0, JX1, JX2, JX3⟩ := JX.k
  obtain ⟨JYl, JY0, JY1, JY2, JY3⟩ := JY.k
  obtain ⟨JRl, JR0, JR1, JR2, JR3, JRf0, JRf1, JRf2, JRf3⟩ := id JR
  obtain ⟨JRbl, JRb0, JRb1, JRb2, JRb3, JRbf0, JRbf1, JRbf2, JRbf3⟩ := id JRb
  have lb := B.size
  go_wp2
  exact bodyPost_ret (v := .tuple #[sv sc0, sv sc0, .bool false]) (by simp [results, Tryz.results96, go_sem, JX0, JX1, JX2, JX3, JXl, JY0, JY1, JY2, JY3, JYl, JR0, JR1, JR2, JR3, JRl, JRb0, JRb1, JRb2, JRb3, JRbl]; try first | rfl | exact ⟨rfl, rfl⟩) rfl ⟨rfl, putS_below sc0 (putS_below sc0 B (by omega)) (by omega)⟩
set_option maxHeartbeats 8000000 in
theorem cAbove_ok (a b : Sc) (k : B64) (hg : ¬ ub (allX.2.2 - k) < ub b.2.1) (hn : ¬ ub a.2.2 < ub k) (w : World) : Calls Tryz.prog 96 #[sv a, sv b, .int .u64 (ub k)] w fun e w' => e = .returned (tri (optS (settle (abvA a b k)), optS (settle (abvB a b k)), (settle (abvA a b k)).isSome && (settle (abvB a b k)).isSome)) ∧ Below w.heap.size w w' := by
  have X1 := fun W => cAll_any W
  have HF := fun W => fld2 allX W
  have HF3 := fun W => fld3 allX.2.1 allX.2.2 W
  have X2 := fun W => cSettle_any a.1 (bmax a.2.1 (b.2.1 + k), a.2.2) W
  have X3 := fun W => cSettle_any b.1 (b.2.1, bmin b.2.2 (a.2.2 - k)) W
  change ∀ W, Calls Tryz.prog _ #[_, _] W fun e w' => e = .returned (.tuple #[sv (optS (settle (abvA a b k))), .bool (settle (abvA a b k)).isSome]) ∧ Below W.heap.size W w' at X2
  change ∀ W, Calls Tryz.prog _ #[_, _] W fun e w' => e = .returned (.tuple #[sv (optS (settle (abvB a b k))), .bool (settle (abvB a b k)).isSome]) ∧ Below W.heap.size W w' at X3
  generalize (settle (abvA a b k)).isSome = k1 at *
  generalize (settle (abvB a b k)).isSome = k2 at *
  generalize optS (settle (abvA a b k)) = P at *
  generalize optS (settle (abvB a b k)) = Q at *
  generalize allX = y at *
  obtain ⟨⟨v, m⟩, l, h⟩ := a
  obtain ⟨⟨v', m'⟩, l', h'⟩ := b
  unfold sv at X1 X2 X3 ⊢
  unfold tv at X2 X3
  unfold tri
  dsimp only at X1 X2 X3 hn hg ⊢
  replace X1 := hid X1
  cases k1
  · rw [Bool.false_and]
    replace X2 := hid X2
    replace X3 := hid X3
    go_enter Tryz.func96, Tryz.ntmps96
    go_wp2_with fail
    have JX : SC ((((w.alloc (.cells #[.int .u64 (ub v), .int .u64 (ub m), .int .u64 (ub l), .int .u64 (ub h)] 28)).alloc (.cells #[.int .u64 (ub v'), .int .u64 (ub m'), .int .u64 (ub l'), .int .u64 (ub h')] 28)).alloc (.cells #[.int .u64 0, .int .u64 0, .int .u64 0, .int .u64 0] 28)).alloc (.cells #[.int .u64 0, .int .u64 0, .int .u64 0, .int .u64 0] 28)) w.heap.size ((v, m), l, h) := (((SC.new (x := ((v, m), l, h)) rfl).alloc _).alloc _).alloc _
    have JY : SC ((((w.alloc (.cells #[.int .u64 (ub v), .int .u64 (ub m), .int .u64 (ub l), .int .u64 (ub h)] 28)).alloc (.cells #[.int .u64 (ub v'), .int .u64 (ub m'), .int .u64 (ub l'), .int .u64 (ub h')] 28)).alloc (.cells #[.int .u64 0, .int .u64 0, .int .u64 0, .int .u64 0] 28)).alloc (.cells #[.int .u64 0, .int .u64 0, .int .u64 0, .int .u64 0] 28)) (w.heap.size + 1) ((v', m'), l', h') := ((SC.new (x := ((v', m'), l', h')) (by simp)).alloc _).alloc _
    have JR : SC ((((w.alloc (.cells #[.int .u64 (ub v), .int .u64 (ub m), .int .u64 (ub l), .int .u64 (ub h)] 28)).alloc (.cells #[.int .u64 (ub v'), .int .u64 (ub m'), .int .u64 (ub l'), .int .u64 (ub h')] 28)).alloc (.cells #[.int .u64 0, .int .u64 0, .int .u64 0, .int .u64 0] 28)).alloc (.cells #[.int .u64 0, .int .u64 0, .int .u64 0, .int .u64 0] 28)) (w.heap.size + 1 + 1) sc0 := (SC.new (x := sc0) (by simp)).alloc _
    have JRb : SC ((((w.alloc (.cells #[.int .u64 (ub v), .int .u64 (ub m), .int .u64 (ub l), .int .u64 (ub h)] 28)).alloc (.cells #[.int .u64 (ub v'), .int .u64 (ub m'), .int .u64 (ub l'), .int .u64 (ub h')] 28)).alloc (.cells #[.int .u64 0, .int .u64 0, .int .u64 0, .int .u64 0] 28)).alloc (.cells #[.int .u64 0, .int .u64 0, .int .u64 0, .int .u64 0] 28)) (w.heap.size + 1 + 1 + 1) sc0 := SC.new (x := sc0) (by simp)
    have B : Below w.heap.size w ((((w.alloc (.cells #[.int .u64 (ub v), .int .u64 (ub m), .int .u64 (ub l), .int .u64 (ub h)] 28)).alloc (.cells #[.int .u64 (ub v'), .int .u64 (ub m'), .int .u64 (ub l'), .int .u64 (ub h')] 28)).alloc (.cells #[.int .u64 0, .int .u64 0, .int .u64 0, .int .u64 0] 28)).alloc (.cells #[.int .u64 0, .int .u64 0, .int .u64 0, .int .u64 0] 28)) := bel_alloc (bel_alloc (bel_alloc (bel_alloc (Below.refl _ _))))
    generalize (((w.alloc (.cells #[.int .u64 (ub v), .int .u64 (ub m), .int .u64 (ub l), .int .u64 (ub h)] 28)).alloc (.cells #[.int .u64 (ub v'), .int .u64 (ub m'), .int .u64 (ub l'), .int .u64 (ub h')] 28)).alloc (.cells #[.int .u64 0, .int .u64 0, .int .u64 0, .int .u64 0] 28)).alloc (.cells #[.int .u64 0, .int .u64 0, .int .u64 0, .int .u64 0] 28) = w0 at *
    obtain ⟨JXl, JX0, JX1, JX2, JX3⟩ := JX.k
    obtain ⟨JYl, JY0, JY1, JY2, JY3⟩ := JY.k
    obtain ⟨JRl, JR0, JR1, JR2, JR3, JRf0, JRf1, JRf2, JRf3⟩ := id JR
    obtain ⟨JRbl, JRb0, JRb1, JRb2, JRb3, JRbf0, JRbf1, JRbf2, JRbf3⟩ := id JRb
    have lb := B.size
    go_wp2_with fail
    clear JX0 JX1 JX2 JX3 JXl JY0 JY1 JY2 JY3 JYl JR0 JR1 JR2 JR3 JRl JRf0 JRf1 JRf2 JRf3 JRb0 JRb1 JRb2 JRb3 JRbl JRbf0 JRbf1 JRbf2 JRbf3 lb
    have q0 := JY.c2
    have q1 := JX.c3
    try dsimp only at q0 q1
    have hd1 : decide (ub (y.2.2 - k) < ub l') = false := by rw [decide_eq_false_iff_not]; omega
    have hd2 : decide (ub h < ub k) = false := by rw [decide_eq_false_iff_not]; omega
    go_region_held3 (fun w' => w'.cell? ⟨w.heap.size + 1, 2, none⟩ = some (.int .u64 (ub ((v', m'), l', h').2.1)) ∧ w'.cell? ⟨w.heap.size, 3, none⟩ = some (.int .u64 (ub ((v, m), l, h).2.2)) ∧ Below w0.heap.size w0 w')
      (first | (go_split_ands; with_reducible exact ⟨by with_reducible assumption, by with_reducible assumption, by with_reducible assumption⟩) | (with_reducible exact ⟨cn bq (by with_reducible assumption), cn bq (by with_reducible assumption), below_next (by with_reducible assumption) bq⟩) | (with_reducible exact ⟨cn (below_dr w0) q0, cn (below_dr w0) q1, below_dr w0⟩))
      (first | (go_at_call 18; go_split_ands; (with_reducible refine (X1.out _).mono ?_); rintro e wq ⟨rfl, bq⟩))
    go_split_ands
    have zq : Below w0.heap.size w0 wq := by with_reducible assumption
    replace JX := JX.below zq
    replace JY := JY.below zq
    replace JR := JR.below zq
    replace JRb := JRb.below zq
    replace B := below_next B zq
    clear zq bq q0 q1
    skip
    obtain ⟨JXl, JX0, JX1, JX2, JX3⟩ := JX.k
    obtain ⟨JYl, JY0, JY1, JY2, JY3⟩ := JY.k
    obtain ⟨JRl, JR0, JR1, JR2, JR3, JRf0, JRf1, JRf2, JRf3⟩ := id JR
    obtain ⟨JRbl, JRb0, JRb1, JRb2, JRb3, JRbf0, JRbf1, JRbf2, JRbf3⟩ := id JRb
    have lb := B.size
    go_wp2_with fail
    refine (X2.out _).mono ?_
    rintro e w2 ⟨rfl, z⟩
    clear JX0 JX1 JX2 JX3 JXl JY0 JY1 JY2 JY3 JYl JR0 JR1 JR2 JR3 JRl JRf0 JRf1 JRf2 JRf3 JRb0 JRb1 JRb2 JRb3 JRbl JRbf0 JRbf1 JRbf2 JRbf3 lb
    replace JX := JX.below z
    replace JY := JY.below z
    replace JR := JR.below z
    replace JRb := JRb.below z
    replace B := below_next B z
    clear z
    obtain ⟨JXl, JX0, JX1, JX2, JX3⟩ := JX.k
    obtain ⟨JYl, JY0, JY1, JY2, JY3⟩ := JY.k
    obtain ⟨JRl, JR0, JR1, JR2, JR3, JRf0, JRf1, JRf2, JRf3⟩ := id JR
    obtain ⟨JRbl, JRb0, JRb1, JRb2, JRb3, JRbf0, JRbf1, JRbf2, JRbf3⟩ := id JRb
    have lb := B.size
    go_wp2_with fail
    refine (X3.out _).mono ?_
    rintro e w3 ⟨rfl, z⟩
    clear JX0 JX1 JX2 JX3 JXl JY0 JY1 JY2 JY3 JYl JR0 JR1 JR2 JR3 JRl JRf0 JRf1 JRf2 JRf3 JRb0 JRb1 JRb2 JRb3 JRbl JRbf0 JRbf1 JRbf2 JRbf3 lb
    have g3JX : w.heap.size < w2.heap.size := JX.lt
    have g3JY : w.heap.size + 1 < w2.heap.size := JY.lt
    have g3JR : w.heap.size + 1 + 1 < w2.heap.size := JR.lt
    have g3JRb : w.heap.size + 1 + 1 + 1 < w2.heap.size := JRb.lt
    have g3B := B.size
    replace JX := (JX.alloc _).below z
    replace JY := (JY.alloc _).below z
    replace JR := (JR.alloc _).below z
    replace JRb := (JRb.alloc _).below z
    have JP : SC w3 (w2.heap.size) (P) := (SC.new rfl).below z
    replace B := below_next (bel_alloc B) z
    clear z
    obtain ⟨JXl, JX0, JX1, JX2, JX3⟩ := JX.k
    obtain ⟨JYl, JY0, JY1, JY2, JY3⟩ := JY.k
    obtain ⟨JRl, JR0, JR1, JR2, JR3, JRf0, JRf1, JRf2, JRf3⟩ := id JR
    obtain ⟨JRbl, JRb0, JRb1, JRb2, JRb3, JRbf0, JRbf1, JRbf2, JRbf3⟩ := id JRb
    obtain ⟨JPl, JP0, JP1, JP2, JP3⟩ := JP.k
    have lb := B.size
    go_wp2_with fail
    clear JX0 JX1 JX2 JX3 JXl JY0 JY1 JY2 JY3 JYl JR0 JR1 JR2 JR3 JRl JRf0 JRf1 JRf2 JRf3 JRb0 JRb1 JRb2 JRb3 JRbl JRbf0 JRbf1 JRbf2 JRbf3 JP0 JP1 JP2 JP3 JPl lb
    have JQ : SC (w3.alloc (.cells #[.int .u64 (ub Q.1.1), .int .u64 (ub Q.1.2), .int .u64 (ub Q.2.1), .int .u64 (ub Q.2.2)] 28)) w3.heap.size Q := SC.new rfl
    have gqJX : w.heap.size < w3.heap.size := JX.lt
    replace JX := JX.alloc (.cells #[.int .u64 (ub Q.1.1), .int .u64 (ub Q.1.2), .int .u64 (ub Q.2.1), .int .u64 (ub Q.2.2)] 28)
    have gqJY : w.heap.size + 1 < w3.heap.size := JY.lt
    replace JY := JY.alloc (.cells #[.int .u64 (ub Q.1.1), .int .u64 (ub Q.1.2), .int .u64 (ub Q.2.1), .int .u64 (ub Q.2.2)] 28)
    have gqJR : w.heap.size + 1 + 1 < w3.heap.size := JR.lt
    replace JR := JR.alloc (.cells #[.int .u64 (ub Q.1.1), .int .u64 (ub Q.1.2), .int .u64 (ub Q.2.1), .int .u64 (ub Q.2.2)] 28)
    have gqJRb : w.heap.size + 1 + 1 + 1 < w3.heap.size := JRb.lt
    replace JRb := JRb.alloc (.cells #[.int .u64 (ub Q.1.1), .int .u64 (ub Q.1.2), .int .u64 (ub Q.2.1), .int .u64 (ub Q.2.2)] 28)
    have gqJP : w2.heap.size < w3.heap.size := JP.lt
    replace JP := JP.alloc (.cells #[.int .u64 (ub Q.1.1), .int .u64 (ub Q.1.2), .int .u64 (ub Q.2.1), .int .u64 (ub Q.2.2)] 28)
    replace B := bel_alloc (o := .cells #[.int .u64 (ub Q.1.1), .int .u64 (ub Q.1.2), .int .u64 (ub Q.2.1), .int .u64 (ub Q.2.2)] 28) B
    generalize w3.alloc (.cells #[.int .u64 (ub Q.1.1), .int .u64 (ub Q.1.2), .int .u64 (ub Q.2.1), .int .u64 (ub Q.2.2)] 28) = w9 at *
    obtain ⟨JXl, JX0, JX1, JX2, JX3⟩ := JX.k
    obtain ⟨JYl, JY0, JY1, JY2, JY3⟩ := JY.k
    obtain ⟨JRl, JR0, JR1, JR2, JR3, JRf0, JRf1, JRf2, JRf3⟩ := id JR
    obtain ⟨JRbl, JRb0, JRb1, JRb2, JRb3, JRbf0, JRbf1, JRbf2, JRbf3⟩ := id JRb
    obtain ⟨JPl, JP0, JP1, JP2, JP3⟩ := JP.k
    obtain ⟨JQl, JQ0, JQ1, JQ2, JQ3⟩ := JQ.k
    have lb := B.size
    go_wp2_with fail
    clear JX0 JX1 JX2 JX3 JXl JY0 JY1 JY2 JY3 JYl JR0 JR1 JR2 JR3 JRl JRf0 JRf1 JRf2 JRf3 JRb0 JRb1 JRb2 JRb3 JRbl JRbf0 JRbf1 JRbf2 JRbf3 JP0 JP1 JP2 JP3 JPl JQ0 JQ1 JQ2 JQ3 JQl lb
    obtain ⟨JXdl, JXd0, JXd1, JXd2, JXd3, JXdf0, JXdf1, JXdf2, JXdf3⟩ := id JX
    obtain ⟨JYdl, JYd0, JYd1, JYd2, JYd3, JYdf0, JYdf1, JYdf2, JYdf3⟩ := id JY
    obtain ⟨JRdl, JRd0, JRd1, JRd2, JRd3, JRdf0, JRdf1, JRdf2, JRdf3⟩ := id JR
    obtain ⟨JRbdl, JRbd0, JRbd1, JRbd2, JRbd3, JRbdf0, JRbdf1, JRbdf2, JRbdf3⟩ := id JRb
    obtain ⟨JPdl, JPd0, JPd1, JPd2, JPd3, JPdf0, JPdf1, JPdf2, JPdf3⟩ := id JP
    obtain ⟨JQdl, JQd0, JQd1, JQd2, JQd3, JQdf0, JQdf1, JQdf2, JQdf3⟩ := id JQ
    have ld := B.size
    have hu : undef = Value.tuple #[] := rfl
    apply cutF (F := fun W' => SC W' (w.heap.size) ((v, m), l, h) ∧ SC W' (w.heap.size + 1) ((v', m'), l', h') ∧ SC W' (w.heap.size + 1 + 1) (P) ∧ SC W' (w.heap.size + 1 + 1 + 1) (Q) ∧ SC W' (w2.heap.size) P ∧ SC W' (w3.heap.size) Q ∧ Below w.heap.size w W')
    · first | (go_region_law (fail)) | fail
      all_goals exact ⟨⟨(((JX.other (c := w.heap.size + 1 + 1) (by omega) (P)).other (c := w.heap.size + 1 + 1 + 1) (by omega) (Q)).below (below_dr _)), (((JY.other (c := w.heap.size + 1 + 1) (by omega) (P)).other (c := w.heap.size + 1 + 1 + 1) (by omega) (Q)).below (below_dr _)), (((JR.put (P)).other (c := w.heap.size + 1 + 1 + 1) (by omega) (Q)).below (below_dr _)), (((JRb.other (c := w.heap.size + 1 + 1) (by omega) (P)).put (Q)).below (below_dr _)), (((JP.other (c := w.heap.size + 1 + 1) (by omega) (P)).other (c := w.heap.size + 1 + 1 + 1) (by omega) (Q)).below (below_dr _)), (((JQ.other (c := w.heap.size + 1 + 1) (by omega) (P)).other (c := w.heap.size + 1 + 1 + 1) (by omega) (Q)).below (below_dr _)), below_next (putS_below (Q) (putS_below (P) B (by omega : w.heap.size ≤ w.heap.size + 1 + 1)) (by omega : w.heap.size ≤ w.heap.size + 1 + 1 + 1)) (below_dr _)⟩, rfl⟩
    clear JXd0 JXd1 JXd2 JXd3 JXdl JXdf0 JXdf1 JXdf2 JXdf3 JYd0 JYd1 JYd2 JYd3 JYdl JYdf0 JYdf1 JYdf2 JYdf3 JRd0 JRd1 JRd2 JRd3 JRdl JRdf0 JRdf1 JRdf2 JRdf3 JRbd0 JRbd1 JRbd2 JRbd3 JRbdl JRbdf0 JRbdf1 JRbdf2 JRbdf3 JPd0 JPd1 JPd2 JPd3 JPdl JPdf0 JPdf1 JPdf2 JPdf3 JQd0 JQd1 JQd2 JQd3 JQdl JQdf0 JQdf1 JQdf2 JQdf3 ld hu
    clear JX JY JR JRb JP JQ B
    intro w4 ⟨JX, JY, JR, JRb, JP, JQ, B⟩
    obtain ⟨JXl, JX0, JX1, JX2, JX3⟩ := JX.k
    obtain ⟨JYl, JY0, JY1, JY2, JY3⟩ := JY.k
    obtain ⟨JRl, JR0, JR1, JR2, JR3, JRf0, JRf1, JRf2, JRf3⟩ := id JR
    obtain ⟨JRbl, JRb0, JRb1, JRb2, JRb3, JRbf0, JRbf1, JRbf2, JRbf3⟩ := id JRb
    obtain ⟨JPl, JP0, JP1, JP2, JP3⟩ := JP.k
    obtain ⟨JQl, JQ0, JQ1, JQ2, JQ3⟩ := JQ.k
    have lb := B.size
    go_wp2
    exact bodyPost_ret (v := .tuple #[sv P, sv Q, .bool false]) (by simp [results, Tryz.results96, go_sem, JX0, JX1, JX2, JX3, JXl, JY0, JY1, JY2, JY3, JYl, JR0, JR1, JR2, JR3, JRl, JRb0, JRb1, JRb2, JRb3, JRbl, JP0, JP1, JP2, JP3, JPl, JQ0, JQ1, JQ2, JQ3, JQl]; try first | rfl | exact ⟨rfl, rfl⟩) rfl ⟨rfl, B⟩
  · rw [Bool.true_and]
    replace X2 := hid X2
    replace X3 := hid X3
    go_enter Tryz.func96, Tryz.ntmps96
    go_wp2_with fail
    have JX : SC ((((w.alloc (.cells #[.int .u64 (ub v), .int .u64 (ub m), .int .u64 (ub l), .int .u64 (ub h)] 28)).alloc (.cells #[.int .u64 (ub v'), .int .u64 (ub m'), .int .u64 (ub l'), .int .u64 (ub h')] 28)).alloc (.cells #[.int .u64 0, .int .u64 0, .int .u64 0, .int .u64 0] 28)).alloc (.cells #[.int .u64 0, .int .u64 0, .int .u64 0, .int .u64 0] 28)) w.heap.size ((v, m), l, h) := (((SC.new (x := ((v, m), l, h)) rfl).alloc _).alloc _).alloc _
    have JY : SC ((((w.alloc (.cells #[.int .u64 (ub v), .int .u64 (ub m), .int .u64 (ub l), .int .u64 (ub h)] 28)).alloc (.cells #[.int .u64 (ub v'), .int .u64 (ub m'), .int .u64 (ub l'), .int .u64 (ub h')] 28)).alloc (.cells #[.int .u64 0, .int .u64 0, .int .u64 0, .int .u64 0] 28)).alloc (.cells #[.int .u64 0, .int .u64 0, .int .u64 0, .int .u64 0] 28)) (w.heap.size + 1) ((v', m'), l', h') := ((SC.new (x := ((v', m'), l', h')) (by simp)).alloc _).alloc _
    have JR : SC ((((w.alloc (.cells #[.int .u64 (ub v), .int .u64 (ub m), .int .u64 (ub l), .int .u64 (ub h)] 28)).alloc (.cells #[.int .u64 (ub v'), .int .u64 (ub m'), .int .u64 (ub l'), .int .u64 (ub h')] 28)).alloc (.cells #[.int .u64 0, .int .u64 0, .int .u64 0, .int .u64 0] 28)).alloc (.cells #[.int .u64 0, .int .u64 0, .int .u64 0, .int .u64 0] 28)) (w.heap.size + 1 + 1) sc0 := (SC.new (x := sc0) (by simp)).alloc _
    have JRb : SC ((((w.alloc (.cells #[.int .u64 (ub v), .int .u64 (ub m), .int .u64 (ub l), .int .u64 (ub h)] 28)).alloc (.cells #[.int .u64 (ub v'), .int .u64 (ub m'), .int .u64 (ub l'), .int .u64 (ub h')] 28)).alloc (.cells #[.int .u64 0, .int .u64 0, .int .u64 0, .int .u64 0] 28)).alloc (.cells #[.int .u64 0, .int .u64 0, .int .u64 0, .int .u64 0] 28)) (w.heap.size + 1 + 1 + 1) sc0 := SC.new (x := sc0) (by simp)
    have B : Below w.heap.size w ((((w.alloc (.cells #[.int .u64 (ub v), .int .u64 (ub m), .int .u64 (ub l), .int .u64 (ub h)] 28)).alloc (.cells #[.int .u64 (ub v'), .int .u64 (ub m'), .int .u64 (ub l'), .int .u64 (ub h')] 28)).alloc (.cells #[.int .u64 0, .int .u64 0, .int .u64 0, .int .u64 0] 28)).alloc (.cells #[.int .u64 0, .int .u64 0, .int .u64 0, .int .u64 0] 28)) := bel_alloc (bel_alloc (bel_alloc (bel_alloc (Below.refl _ _))))
    generalize (((w.alloc (.cells #[.int .u64 (ub v), .int .u64 (ub m), .int .u64 (ub l), .int .u64 (ub h)] 28)).alloc (.cells #[.int .u64 (ub v'), .int .u64 (ub m'), .int .u64 (ub l'), .int .u64 (ub h')] 28)).alloc (.cells #[.int .u64 0, .int .u64 0, .int .u64 0, .int .u64 0] 28)).alloc (.cells #[.int .u64 0, .int .u64 0, .int .u64 0, .int .u64 0] 28) = w0 at *
    obtain ⟨JXl, JX0, JX1, JX2, JX3⟩ := JX.k
    obtain ⟨JYl, JY0, JY1, JY2, JY3⟩ := JY.k
    obtain ⟨JRl, JR0, JR1, JR2, JR3, JRf0, JRf1, JRf2, JRf3⟩ := id JR
    obtain ⟨JRbl, JRb0, JRb1, JRb2, JRb3, JRbf0, JRbf1, JRbf2, JRbf3⟩ := id JRb
    have lb := B.size
    go_wp2_with fail
    clear JX0 JX1 JX2 JX3 JXl JY0 JY1 JY2 JY3 JYl JR0 JR1 JR2 JR3 JRl JRf0 JRf1 JRf2 JRf3 JRb0 JRb1 JRb2 JRb3 JRbl JRbf0 JRbf1 JRbf2 JRbf3 lb
    have q0 := JY.c2
    have q1 := JX.c3
    try dsimp only at q0 q1
    have hd1 : decide (ub (y.2.2 - k) < ub l') = false := by rw [decide_eq_false_iff_not]; omega
    have hd2 : decide (ub h < ub k) = false := by rw [decide_eq_false_iff_not]; omega
    go_region_held3 (fun w' => w'.cell? ⟨w.heap.size + 1, 2, none⟩ = some (.int .u64 (ub ((v', m'), l', h').2.1)) ∧ w'.cell? ⟨w.heap.size, 3, none⟩ = some (.int .u64 (ub ((v, m), l, h).2.2)) ∧ Below w0.heap.size w0 w')
      (first | (go_split_ands; with_reducible exact ⟨by with_reducible assumption, by with_reducible assumption, by with_reducible assumption⟩) | (with_reducible exact ⟨cn bq (by with_reducible assumption), cn bq (by with_reducible assumption), below_next (by with_reducible assumption) bq⟩) | (with_reducible exact ⟨cn (below_dr w0) q0, cn (below_dr w0) q1, below_dr w0⟩))
      (first | (go_at_call 18; go_split_ands; (with_reducible refine (X1.out _).mono ?_); rintro e wq ⟨rfl, bq⟩))
    go_split_ands
    have zq : Below w0.heap.size w0 wq := by with_reducible assumption
    replace JX := JX.below zq
    replace JY := JY.below zq
    replace JR := JR.below zq
    replace JRb := JRb.below zq
    replace B := below_next B zq
    clear zq bq q0 q1
    skip
    obtain ⟨JXl, JX0, JX1, JX2, JX3⟩ := JX.k
    obtain ⟨JYl, JY0, JY1, JY2, JY3⟩ := JY.k
    obtain ⟨JRl, JR0, JR1, JR2, JR3, JRf0, JRf1, JRf2, JRf3⟩ := id JR
    obtain ⟨JRbl, JRb0, JRb1, JRb2, JRb3, JRbf0, JRbf1, JRbf2, JRbf3⟩ := id JRb
    have lb := B.size
    go_wp2_with fail
    refine (X2.out _).mono ?_
    rintro e w2 ⟨rfl, z⟩
    clear JX0 JX1 JX2 JX3 JXl JY0 JY1 JY2 JY3 JYl JR0 JR1 JR2 JR3 JRl JRf0 JRf1 JRf2 JRf3 JRb0 JRb1 JRb2 JRb3 JRbl JRbf0 JRbf1 JRbf2 JRbf3 lb
    replace JX := JX.below z
    replace JY := JY.below z
    replace JR := JR.below z
    replace JRb := JRb.below z
    replace B := below_next B z
    clear z
    obtain ⟨JXl, JX0, JX1, JX2, JX3⟩ := JX.k
    obtain ⟨JYl, JY0, JY1, JY2, JY3⟩ := JY.k
    obtain ⟨JRl, JR0, JR1, JR2, JR3, JRf0, JRf1, JRf2, JRf3⟩ := id JR
    obtain ⟨JRbl, JRb0, JRb1, JRb2, JRb3, JRbf0, JRbf1, JRbf2, JRbf3⟩ := id JRb
    have lb := B.size
    go_wp2_with fail
    refine (X3.out _).mono ?_
    rintro e w3 ⟨rfl, z⟩
    clear JX0 JX1 JX2 JX3 JXl JY0 JY1 JY2 JY3 JYl JR0 JR1 JR2 JR3 JRl JRf0 JRf1 JRf2 JRf3 JRb0 JRb1 JRb2 JRb3 JRbl JRbf0 JRbf1 JRbf2 JRbf3 lb
    have g3JX : w.heap.size < w2.heap.size := JX.lt
    have g3JY : w.heap.size + 1 < w2.heap.size := JY.lt
    have g3JR : w.heap.size + 1 + 1 < w2.heap.size := JR.lt
    have g3JRb : w.heap.size + 1 + 1 + 1 < w2.heap.size := JRb.lt
    have g3B := B.size
    replace JX := (JX.alloc _).below z
    replace JY := (JY.alloc _).below z
    replace JR := (JR.alloc _).below z
    replace JRb := (JRb.alloc _).below z
    have JP : SC w3 (w2.heap.size) (P) := (SC.new rfl).below z
    replace B := below_next (bel_alloc B) z
    clear z
    obtain ⟨JXl, JX0, JX1, JX2, JX3⟩ := JX.k
    obtain ⟨JYl, JY0, JY1, JY2, JY3⟩ := JY.k
    obtain ⟨JRl, JR0, JR1, JR2, JR3, JRf0, JRf1, JRf2, JRf3⟩ := id JR
    obtain ⟨JRbl, JRb0, JRb1, JRb2, JRb3, JRbf0, JRbf1, JRbf2, JRbf3⟩ := id JRb
    obtain ⟨JPl, JP0, JP1, JP2, JP3⟩ := JP.k
    have lb := B.size
    go_wp2_with fail
    clear JX0 JX1 JX2 JX3 JXl JY0 JY1 JY2 JY3 JYl JR0 JR1 JR2 JR3 JRl JRf0 JRf1 JRf2 JRf3 JRb0 JRb1 JRb2 JRb3 JRbl JRbf0 JRbf1 JRbf2 JRbf3 JP0 JP1 JP2 JP3 JPl lb
    have JQ : SC (w3.alloc (.cells #[.int .u64 (ub Q.1.1), .int .u64 (ub Q.1.2), .int .u64 (ub Q.2.1), .int .u64 (ub Q.2.2)] 28)) w3.heap.size Q := SC.new rfl
    have gqJX : w.heap.size < w3.heap.size := JX.lt
    replace JX := JX.alloc (.cells #[.int .u64 (ub Q.1.1), .int .u64 (ub Q.1.2), .int .u64 (ub Q.2.1), .int .u64 (ub Q.2.2)] 28)
    have gqJY : w.heap.size + 1 < w3.heap.size := JY.lt
    replace JY := JY.alloc (.cells #[.int .u64 (ub Q.1.1), .int .u64 (ub Q.1.2), .int .u64 (ub Q.2.1), .int .u64 (ub Q.2.2)] 28)
    have gqJR : w.heap.size + 1 + 1 < w3.heap.size := JR.lt
    replace JR := JR.alloc (.cells #[.int .u64 (ub Q.1.1), .int .u64 (ub Q.1.2), .int .u64 (ub Q.2.1), .int .u64 (ub Q.2.2)] 28)
    have gqJRb : w.heap.size + 1 + 1 + 1 < w3.heap.size := JRb.lt
    replace JRb := JRb.alloc (.cells #[.int .u64 (ub Q.1.1), .int .u64 (ub Q.1.2), .int .u64 (ub Q.2.1), .int .u64 (ub Q.2.2)] 28)
    have gqJP : w2.heap.size < w3.heap.size := JP.lt
    replace JP := JP.alloc (.cells #[.int .u64 (ub Q.1.1), .int .u64 (ub Q.1.2), .int .u64 (ub Q.2.1), .int .u64 (ub Q.2.2)] 28)
    replace B := bel_alloc (o := .cells #[.int .u64 (ub Q.1.1), .int .u64 (ub Q.1.2), .int .u64 (ub Q.2.1), .int .u64 (ub Q.2.2)] 28) B
    generalize w3.alloc (.cells #[.int .u64 (ub Q.1.1), .int .u64 (ub Q.1.2), .int .u64 (ub Q.2.1), .int .u64 (ub Q.2.2)] 28) = w9 at *
    obtain ⟨JXl, JX0, JX1, JX2, JX3⟩ := JX.k
    obtain ⟨JYl, JY0, JY1, JY2, JY3⟩ := JY.k
    obtain ⟨JRl, JR0, JR1, JR2, JR3, JRf0, JRf1, JRf2, JRf3⟩ := id JR
    obtain ⟨JRbl, JRb0, JRb1, JRb2, JRb3, JRbf0, JRbf1, JRbf2, JRbf3⟩ := id JRb
    obtain ⟨JPl, JP0, JP1, JP2, JP3⟩ := JP.k
    obtain ⟨JQl, JQ0, JQ1, JQ2, JQ3⟩ := JQ.k
    have lb := B.size
    go_wp2_with fail
    clear JX0 JX1 JX2 JX3 JXl JY0 JY1 JY2 JY3 JYl JR0 JR1 JR2 JR3 JRl JRf0 JRf1 JRf2 JRf3 JRb0 JRb1 JRb2 JRb3 JRbl JRbf0 JRbf1 JRbf2 JRbf3 JP0 JP1 JP2 JP3 JPl JQ0 JQ1 JQ2 JQ3 JQl lb
    obtain ⟨JXdl, JXd0, JXd1, JXd2, JXd3, JXdf0, JXdf1, JXdf2, JXdf3⟩ := id JX
    obtain ⟨JYdl, JYd0, JYd1, JYd2, JYd3, JYdf0, JYdf1, JYdf2, JYdf3⟩ := id JY
    obtain ⟨JRdl, JRd0, JRd1, JRd2, JRd3, JRdf0, JRdf1, JRdf2, JRdf3⟩ := id JR
    obtain ⟨JRbdl, JRbd0, JRbd1, JRbd2, JRbd3, JRbdf0, JRbdf1, JRbdf2, JRbdf3⟩ := id JRb
    obtain ⟨JPdl, JPd0, JPd1, JPd2, JPd3, JPdf0, JPdf1, JPdf2, JPdf3⟩ := id JP
    obtain ⟨JQdl, JQd0, JQd1, JQd2, JQd3, JQdf0, JQdf1, JQdf2, JQdf3⟩ := id JQ
    have ld := B.size
    have hu : undef = Value.tuple #[] := rfl
    apply cutF (F := fun W' => SC W' (w.heap.size) ((v, m), l, h) ∧ SC W' (w.heap.size + 1) ((v', m'), l', h') ∧ SC W' (w.heap.size + 1 + 1) (P) ∧ SC W' (w.heap.size + 1 + 1 + 1) (Q) ∧ SC W' (w2.heap.size) P ∧ SC W' (w3.heap.size) Q ∧ Below w.heap.size w W')
    · first | (go_region_law (fail)) | fail
      all_goals exact ⟨⟨(((JX.other (c := w.heap.size + 1 + 1) (by omega) (P)).other (c := w.heap.size + 1 + 1 + 1) (by omega) (Q)).below (below_dr _)), (((JY.other (c := w.heap.size + 1 + 1) (by omega) (P)).other (c := w.heap.size + 1 + 1 + 1) (by omega) (Q)).below (below_dr _)), (((JR.put (P)).other (c := w.heap.size + 1 + 1 + 1) (by omega) (Q)).below (below_dr _)), (((JRb.other (c := w.heap.size + 1 + 1) (by omega) (P)).put (Q)).below (below_dr _)), (((JP.other (c := w.heap.size + 1 + 1) (by omega) (P)).other (c := w.heap.size + 1 + 1 + 1) (by omega) (Q)).below (below_dr _)), (((JQ.other (c := w.heap.size + 1 + 1) (by omega) (P)).other (c := w.heap.size + 1 + 1 + 1) (by omega) (Q)).below (below_dr _)), below_next (putS_below (Q) (putS_below (P) B (by omega : w.heap.size ≤ w.heap.size + 1 + 1)) (by omega : w.heap.size ≤ w.heap.size + 1 + 1 + 1)) (below_dr _)⟩, rfl⟩
    clear JXd0 JXd1 JXd2 JXd3 JXdl JXdf0 JXdf1 JXdf2 JXdf3 JYd0 JYd1 JYd2 JYd3 JYdl JYdf0 JYdf1 JYdf2 JYdf3 JRd0 JRd1 JRd2 JRd3 JRdl JRdf0 JRdf1 JRdf2 JRdf3 JRbd0 JRbd1 JRbd2 JRbd3 JRbdl JRbdf0 JRbdf1 JRbdf2 JRbdf3 JPd0 JPd1 JPd2 JPd3 JPdl JPdf0 JPdf1 JPdf2 JPdf3 JQd0 JQd1 JQd2 JQd3 JQdl JQdf0 JQdf1 JQdf2 JQdf3 ld hu
    clear JX JY JR JRb JP JQ B
    intro w4 ⟨JX, JY, JR, JRb, JP, JQ, B⟩
    obtain ⟨JXl, JX0, JX1, JX2, JX3⟩ := JX.k
    obtain ⟨JYl, JY0, JY1, JY2, JY3⟩ := JY.k
    obtain ⟨JRl, JR0, JR1, JR2, JR3, JRf0, JRf1, JRf2, JRf3⟩ := id JR
    obtain ⟨JRbl, JRb0, JRb1, JRb2, JRb3, JRbf0, JRbf1, JRbf2, JRbf3⟩ := id JRb
    obtain ⟨JPl, JP0, JP1, JP2, JP3⟩ := JP.k
    obtain ⟨JQl, JQ0, JQ1, JQ2, JQ3⟩ := JQ.k
    have lb := B.size
    go_wp2
    exact bodyPost_ret (v := .tuple #[sv P, sv Q, .bool k2]) (by simp [results, Tryz.results96, go_sem, JX0, JX1, JX2, JX3, JXl, JY0, JY1, JY2, JY3, JYl, JR0, JR1, JR2, JR3, JRl, JRb0, JRb1, JRb2, JRb3, JRbl, JP0, JP1, JP2, JP3, JPl, JQ0, JQ1, JQ2, JQ3, JQl]; try first | rfl | exact ⟨rfl, rfl⟩) rfl ⟨rfl, B⟩
theorem cAbove_any (a b : Sc) (k : B64) (w : World) : Calls Tryz.prog 96 #[sv a, sv b, .int .u64 (ub k)] w fun e w' => e = .returned (tri (abvT a b k)) ∧ Below w.heap.size w w' := by
  by_cases hg : ub (allX.2.2 - k) < ub b.2.1
  · rw [show abvT a b k = (sc0, sc0, false) from if_neg (by unfold abvOk; rw [decide_eq_true hg]; simp)]
    exact cAbove_no1 a b k hg w
  · by_cases hn : ub a.2.2 < ub k
    · rw [show abvT a b k = (sc0, sc0, false) from if_neg (by unfold abvOk; rw [decide_eq_true hn, Bool.or_true]; simp)]
      exact cAbove_no2 a b k hg hn w
    · rw [show abvT a b k = (optS (settle (abvA a b k)), optS (settle (abvB a b k)), (settle (abvA a b k)).isSome && (settle (abvB a b k)).isSome) from if_pos (by unfold abvOk; rw [decide_eq_false hg, decide_eq_false hn]; simp)]
      exact cAbove_ok a b k hg hn w
end Go.Proofs.YtodmikjpmcabiaaGreat
