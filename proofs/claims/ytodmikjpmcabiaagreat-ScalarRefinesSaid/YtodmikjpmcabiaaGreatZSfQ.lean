import Derived.Test.YtodmikjpmcabiaaGreatZSfP
import Derived.Test.YtodmikjpmcabiaaGreatZSoC
import Derived.Test.YtodmikjpmcabiaaGreatZHrU
import Derived.Deep.RegionLaw
import Derived.Deep.RegionHeld3
import Derived.BigRegion
namespace Go.Proofs.YtodmikjpmcabiaaGreat
set_option linter.unusedSimpArgs false
set_option linter.unusedVariables false
set_option maxRecDepth 100000
set_option maxRecDepth 100000
open Go.ChangeShapes Go.WideShapes Go.ChangeAt Go.RowKit

set_option maxHeartbeats 16000000 in
theorem rRefine_none (op : Int) (c : Bool) (a b : Sc) (k : Bool) (h : Wd.isCond op = false) (w : World) : Calls Tryz.prog 30 #[.int .i64 op, .bool c, sv a, sv b, .bool k] w fun e w' => e = .returned (tri noT) ∧ Below w.heap.size w w' := by
  have X1 := fun W => Wd.rcond_any op c 0 0 W (by decide) (by decide) (by decide) (by decide)
  have X2 := fun W => rMayX_any a W
  have X3 := fun W => rMayX_any b W
  generalize Wd.condI op c 0 0 = N at X1
  rw [show Wd.condE op = 20 from if_neg (by rw [h]; decide)] at X1
  clear X2 X3 h
  obtain ⟨⟨v, m⟩, l, h⟩ := a
  obtain ⟨⟨v', m'⟩, l', h'⟩ := b
  unfold tri noT sv
  dsimp only
  replace X1 := hid X1
  go_enter Tryz.func30, Tryz.ntmps30
  go_wp2_with fail
  have JX : SC (((((w.alloc (.cells #[.int .u64 (ub v), .int .u64 (ub m), .int .u64 (ub l), .int .u64 (ub h)] 28)).alloc (.cells #[.int .u64 (ub v'), .int .u64 (ub m'), .int .u64 (ub l'), .int .u64 (ub h')] 28)).alloc (.cells #[.int .u64 0, .int .u64 0, .int .u64 0, .int .u64 0] 28)).alloc (.cells #[.int .u64 0, .int .u64 0, .int .u64 0, .int .u64 0] 28)).alloc (.cells #[.int .u64 0, .int .u64 0, .int .u64 0, .int .u64 0] 28)) (w.heap.size) ((v, m), l, h) := (((((SC.new (x := ((v, m), l, h)) rfl).alloc _).alloc _).alloc _).alloc _)
  have JY : SC (((((w.alloc (.cells #[.int .u64 (ub v), .int .u64 (ub m), .int .u64 (ub l), .int .u64 (ub h)] 28)).alloc (.cells #[.int .u64 (ub v'), .int .u64 (ub m'), .int .u64 (ub l'), .int .u64 (ub h')] 28)).alloc (.cells #[.int .u64 0, .int .u64 0, .int .u64 0, .int .u64 0] 28)).alloc (.cells #[.int .u64 0, .int .u64 0, .int .u64 0, .int .u64 0] 28)).alloc (.cells #[.int .u64 0, .int .u64 0, .int .u64 0, .int .u64 0] 28)) (w.heap.size + 1) ((v', m'), l', h') := ((((SC.new (x := ((v', m'), l', h')) (by simp)).alloc _).alloc _).alloc _)
  have JRa : SC (((((w.alloc (.cells #[.int .u64 (ub v), .int .u64 (ub m), .int .u64 (ub l), .int .u64 (ub h)] 28)).alloc (.cells #[.int .u64 (ub v'), .int .u64 (ub m'), .int .u64 (ub l'), .int .u64 (ub h')] 28)).alloc (.cells #[.int .u64 0, .int .u64 0, .int .u64 0, .int .u64 0] 28)).alloc (.cells #[.int .u64 0, .int .u64 0, .int .u64 0, .int .u64 0] 28)).alloc (.cells #[.int .u64 0, .int .u64 0, .int .u64 0, .int .u64 0] 28)) (w.heap.size + 1 + 1) sc0 := (((SC.new (x := sc0) (by simp)).alloc _).alloc _)
  have JRb : SC (((((w.alloc (.cells #[.int .u64 (ub v), .int .u64 (ub m), .int .u64 (ub l), .int .u64 (ub h)] 28)).alloc (.cells #[.int .u64 (ub v'), .int .u64 (ub m'), .int .u64 (ub l'), .int .u64 (ub h')] 28)).alloc (.cells #[.int .u64 0, .int .u64 0, .int .u64 0, .int .u64 0] 28)).alloc (.cells #[.int .u64 0, .int .u64 0, .int .u64 0, .int .u64 0] 28)).alloc (.cells #[.int .u64 0, .int .u64 0, .int .u64 0, .int .u64 0] 28)) (w.heap.size + 1 + 1 + 1) sc0 := ((SC.new (x := sc0) (by simp)).alloc _)
  have JN : SC (((((w.alloc (.cells #[.int .u64 (ub v), .int .u64 (ub m), .int .u64 (ub l), .int .u64 (ub h)] 28)).alloc (.cells #[.int .u64 (ub v'), .int .u64 (ub m'), .int .u64 (ub l'), .int .u64 (ub h')] 28)).alloc (.cells #[.int .u64 0, .int .u64 0, .int .u64 0, .int .u64 0] 28)).alloc (.cells #[.int .u64 0, .int .u64 0, .int .u64 0, .int .u64 0] 28)).alloc (.cells #[.int .u64 0, .int .u64 0, .int .u64 0, .int .u64 0] 28)) (w.heap.size + 1 + 1 + 1 + 1) sc0 := (SC.new (x := sc0) (by simp))
  have B : Below w.heap.size w (((((w.alloc (.cells #[.int .u64 (ub v), .int .u64 (ub m), .int .u64 (ub l), .int .u64 (ub h)] 28)).alloc (.cells #[.int .u64 (ub v'), .int .u64 (ub m'), .int .u64 (ub l'), .int .u64 (ub h')] 28)).alloc (.cells #[.int .u64 0, .int .u64 0, .int .u64 0, .int .u64 0] 28)).alloc (.cells #[.int .u64 0, .int .u64 0, .int .u64 0, .int .u64 0] 28)).alloc (.cells #[.int .u64 0, .int .u64 0, .int .u64 0, .int .u64 0] 28)) := (bel_alloc (bel_alloc (bel_alloc (bel_alloc (bel_alloc (Below.refl _ _))))))
  generalize (((((w.alloc (.cells #[.int .u64 (ub v), .int .u64 (ub m), .int .u64 (ub l), .int .u64 (ub h)] 28)).alloc (.cells #[.int .u64 (ub v'), .int .u64 (ub m'), .int .u64 (ub l'), .int .u64 (ub h')] 28)).alloc (.cells #[.int .u64 0, .int .u64 0, .int .u64 0, .int .u64 0] 28)).alloc (.cells #[.int .u64 0, .int .u64 0, .int .u64 0, .int .u64 0] 28)).alloc (.cells #[.int .u64 0, .int .u64 0, .int .u64 0, .int .u64 0] 28)) = w00 at *
  obtain ⟨JXl, JX0, JX1, JX2, JX3⟩ := JX.k
  obtain ⟨JYl, JY0, JY1, JY2, JY3⟩ := JY.k
  obtain ⟨JRal, JRa0, JRa1, JRa2, JRa3, JRaf0, JRaf1, JRaf2, JRaf3⟩ := id JRa
  obtain ⟨JRbl, JRb0, JRb1, JRb2, JRb3, JRbf0, JRbf1, JRbf2, JRbf3⟩ := id JRb
  obtain ⟨JNl, JN0, JN1, JN2, JN3⟩ := JN.k
  have lb := B.size
  go_wp2_with fail
  refine (X1.out _).mono ?_
  rintro e w_ ⟨rfl, rfl⟩
  clear JX0 JX1 JX2 JX3 JXl JY0 JY1 JY2 JY3 JYl JRa0 JRa1 JRa2 JRa3 JRal JRaf0 JRaf1 JRaf2 JRaf3 JRb0 JRb1 JRb2 JRb3 JRbl JRbf0 JRbf1 JRbf2 JRbf3 JN0 JN1 JN2 JN3 JNl lb
  obtain ⟨JXl, JX0, JX1, JX2, JX3⟩ := JX.k
  obtain ⟨JYl, JY0, JY1, JY2, JY3⟩ := JY.k
  obtain ⟨JRal, JRa0, JRa1, JRa2, JRa3, JRaf0, JRaf1, JRaf2, JRaf3⟩ := id JRa
  obtain ⟨JRbl, JRb0, JRb1, JRb2, JRb3, JRbf0, JRbf1, JRbf2, JRbf3⟩ := id JRb
  obtain ⟨JNl, JN0, JN1, JN2, JN3⟩ := JN.k
  have lb := B.size
  go_wp2_with fail
  clear JX0 JX1 JX2 JX3 JXl JY0 JY1 JY2 JY3 JYl JRa0 JRa1 JRa2 JRa3 JRal JRaf0 JRaf1 JRaf2 JRaf3 JRb0 JRb1 JRb2 JRb3 JRbl JRbf0 JRbf1 JRbf2 JRbf3 JN0 JN1 JN2 JN3 JNl lb
  obtain ⟨JXdl, JXd0, JXd1, JXd2, JXd3, JXdf0, JXdf1, JXdf2, JXdf3⟩ := id JX
  obtain ⟨JYdl, JYd0, JYd1, JYd2, JYd3, JYdf0, JYdf1, JYdf2, JYdf3⟩ := id JY
  obtain ⟨JRadl, JRad0, JRad1, JRad2, JRad3, JRadf0, JRadf1, JRadf2, JRadf3⟩ := id JRa
  obtain ⟨JRbdl, JRbd0, JRbd1, JRbd2, JRbd3, JRbdf0, JRbdf1, JRbdf2, JRbdf3⟩ := id JRb
  obtain ⟨JNdl, JNd0, JNd1, JNd2, JNd3, JNdf0, JNdf1, JNdf2, JNdf3⟩ := id JN
  have ld := B.size
  apply cutF (F := fun W' => SC W' (w.heap.size) ((v, m), l, h) ∧ SC W' (w.heap.size + 1) ((v', m'), l', h') ∧ SC W' (w.heap.size + 1 + 1) (sc0) ∧ SC W' (w.heap.size + 1 + 1 + 1) (sc0) ∧ SC W' (w.heap.size + 1 + 1 + 1 + 1) sc0 ∧ Below w.heap.size w W')
  · go_region
    all_goals exact ⟨⟨(((JX.other (c := w.heap.size + 1 + 1) (by omega) (sc0)).other (c := w.heap.size + 1 + 1 + 1) (by omega) (sc0)).below (below_dr _)), (((JY.other (c := w.heap.size + 1 + 1) (by omega) (sc0)).other (c := w.heap.size + 1 + 1 + 1) (by omega) (sc0)).below (below_dr _)), (((JRa.put (sc0)).other (c := w.heap.size + 1 + 1 + 1) (by omega) (sc0)).below (below_dr _)), (((JRb.other (c := w.heap.size + 1 + 1) (by omega) (sc0)).put (sc0)).below (below_dr _)), (((JN.other (c := w.heap.size + 1 + 1) (by omega) (sc0)).other (c := w.heap.size + 1 + 1 + 1) (by omega) (sc0)).below (below_dr _)), below_next (putS_below (sc0) (putS_below (sc0) B (by omega : w.heap.size ≤ w.heap.size + 1 + 1)) (by omega : w.heap.size ≤ w.heap.size + 1 + 1 + 1)) (below_dr _)⟩, rfl⟩
  clear JXd0 JXd1 JXd2 JXd3 JXdl JXdf0 JXdf1 JXdf2 JXdf3 JYd0 JYd1 JYd2 JYd3 JYdl JYdf0 JYdf1 JYdf2 JYdf3 JRad0 JRad1 JRad2 JRad3 JRadl JRadf0 JRadf1 JRadf2 JRadf3 JRbd0 JRbd1 JRbd2 JRbd3 JRbdl JRbdf0 JRbdf1 JRbdf2 JRbdf3 JNd0 JNd1 JNd2 JNd3 JNdl JNdf0 JNdf1 JNdf2 JNdf3 ld
  clear JX JY JRa JRb JN B
  intro w1 ⟨JX, JY, JRa, JRb, JN, B⟩
  obtain ⟨JXl, JX0, JX1, JX2, JX3⟩ := JX.k
  obtain ⟨JYl, JY0, JY1, JY2, JY3⟩ := JY.k
  obtain ⟨JRal, JRa0, JRa1, JRa2, JRa3, JRaf0, JRaf1, JRaf2, JRaf3⟩ := id JRa
  obtain ⟨JRbl, JRb0, JRb1, JRb2, JRb3, JRbf0, JRbf1, JRbf2, JRbf3⟩ := id JRb
  obtain ⟨JNl, JN0, JN1, JN2, JN3⟩ := JN.k
  have lb := B.size
  go_wp2
  exact bodyPost_ret (v := .tuple #[sv sc0, sv sc0, .bool false]) (by simp [results, Tryz.results30, go_sem, JX0, JX1, JX2, JX3, JXl, JY0, JY1, JY2, JY3, JYl, JRa0, JRa1, JRa2, JRa3, JRal, JRb0, JRb1, JRb2, JRb3, JRbl, JN0, JN1, JN2, JN3, JNl]; try first | rfl | exact ⟨rfl, rfl⟩) rfl ⟨rfl, B⟩
set_option maxHeartbeats 16000000 in
theorem rRefine_na (op : Int) (c : Bool) (a b : Sc) (k : Bool) (h : Wd.isCond op = true) (ha : mayX a = false) (w : World) : Calls Tryz.prog 30 #[.int .i64 op, .bool c, sv a, sv b, .bool k] w fun e w' => e = .returned (tri noT) ∧ Below w.heap.size w w' := by
  have X1 := fun W => Wd.rcond_any op c 0 0 W (by decide) (by decide) (by decide) (by decide)
  have X2 := fun W => rMayX_any a W
  have X3 := fun W => rMayX_any b W
  generalize Wd.condI op c 0 0 = N at X1
  rw [show Wd.condE op = 0 from if_pos h] at X1
  rw [ha] at X2
  clear X3 h ha
  obtain ⟨⟨v, m⟩, l, h⟩ := a
  obtain ⟨⟨v', m'⟩, l', h'⟩ := b
  unfold tri noT
  unfold sv at X2 ⊢
  dsimp only at X2 ⊢
  replace X1 := hid X1
  replace X2 := hid X2
  go_enter Tryz.func30, Tryz.ntmps30
  go_wp2_with fail
  have JX : SC (((((w.alloc (.cells #[.int .u64 (ub v), .int .u64 (ub m), .int .u64 (ub l), .int .u64 (ub h)] 28)).alloc (.cells #[.int .u64 (ub v'), .int .u64 (ub m'), .int .u64 (ub l'), .int .u64 (ub h')] 28)).alloc (.cells #[.int .u64 0, .int .u64 0, .int .u64 0, .int .u64 0] 28)).alloc (.cells #[.int .u64 0, .int .u64 0, .int .u64 0, .int .u64 0] 28)).alloc (.cells #[.int .u64 0, .int .u64 0, .int .u64 0, .int .u64 0] 28)) (w.heap.size) ((v, m), l, h) := (((((SC.new (x := ((v, m), l, h)) rfl).alloc _).alloc _).alloc _).alloc _)
  have JY : SC (((((w.alloc (.cells #[.int .u64 (ub v), .int .u64 (ub m), .int .u64 (ub l), .int .u64 (ub h)] 28)).alloc (.cells #[.int .u64 (ub v'), .int .u64 (ub m'), .int .u64 (ub l'), .int .u64 (ub h')] 28)).alloc (.cells #[.int .u64 0, .int .u64 0, .int .u64 0, .int .u64 0] 28)).alloc (.cells #[.int .u64 0, .int .u64 0, .int .u64 0, .int .u64 0] 28)).alloc (.cells #[.int .u64 0, .int .u64 0, .int .u64 0, .int .u64 0] 28)) (w.heap.size + 1) ((v', m'), l', h') := ((((SC.new (x := ((v', m'), l', h')) (by simp)).alloc _).alloc _).alloc _)
  have JRa : SC (((((w.alloc (.cells #[.int .u64 (ub v), .int .u64 (ub m), .int .u64 (ub l), .int .u64 (ub h)] 28)).alloc (.cells #[.int .u64 (ub v'), .int .u64 (ub m'), .int .u64 (ub l'), .int .u64 (ub h')] 28)).alloc (.cells #[.int .u64 0, .int .u64 0, .int .u64 0, .int .u64 0] 28)).alloc (.cells #[.int .u64 0, .int .u64 0, .int .u64 0, .int .u64 0] 28)).alloc (.cells #[.int .u64 0, .int .u64 0, .int .u64 0, .int .u64 0] 28)) (w.heap.size + 1 + 1) sc0 := (((SC.new (x := sc0) (by simp)).alloc _).alloc _)
  have JRb : SC (((((w.alloc (.cells #[.int .u64 (ub v), .int .u64 (ub m), .int .u64 (ub l), .int .u64 (ub h)] 28)).alloc (.cells #[.int .u64 (ub v'), .int .u64 (ub m'), .int .u64 (ub l'), .int .u64 (ub h')] 28)).alloc (.cells #[.int .u64 0, .int .u64 0, .int .u64 0, .int .u64 0] 28)).alloc (.cells #[.int .u64 0, .int .u64 0, .int .u64 0, .int .u64 0] 28)).alloc (.cells #[.int .u64 0, .int .u64 0, .int .u64 0, .int .u64 0] 28)) (w.heap.size + 1 + 1 + 1) sc0 := ((SC.new (x := sc0) (by simp)).alloc _)
  have JN : SC (((((w.alloc (.cells #[.int .u64 (ub v), .int .u64 (ub m), .int .u64 (ub l), .int .u64 (ub h)] 28)).alloc (.cells #[.int .u64 (ub v'), .int .u64 (ub m'), .int .u64 (ub l'), .int .u64 (ub h')] 28)).alloc (.cells #[.int .u64 0, .int .u64 0, .int .u64 0, .int .u64 0] 28)).alloc (.cells #[.int .u64 0, .int .u64 0, .int .u64 0, .int .u64 0] 28)).alloc (.cells #[.int .u64 0, .int .u64 0, .int .u64 0, .int .u64 0] 28)) (w.heap.size + 1 + 1 + 1 + 1) sc0 := (SC.new (x := sc0) (by simp))
  have B : Below w.heap.size w (((((w.alloc (.cells #[.int .u64 (ub v), .int .u64 (ub m), .int .u64 (ub l), .int .u64 (ub h)] 28)).alloc (.cells #[.int .u64 (ub v'), .int .u64 (ub m'), .int .u64 (ub l'), .int .u64 (ub h')] 28)).alloc (.cells #[.int .u64 0, .int .u64 0, .int .u64 0, .int .u64 0] 28)).alloc (.cells #[.int .u64 0, .int .u64 0, .int .u64 0, .int .u64 0] 28)).alloc (.cells #[.int .u64 0, .int .u64 0, .int .u64 0, .int .u64 0] 28)) := (bel_alloc (bel_alloc (bel_alloc (bel_alloc (bel_alloc (Below.refl _ _))))))
  generalize (((((w.alloc (.cells #[.int .u64 (ub v), .int .u64 (ub m), .int .u64 (ub l), .int .u64 (ub h)] 28)).alloc (.cells #[.int .u64 (ub v'), .int .u64 (ub m'), .int .u64 (ub l'), .int .u64 (ub h')] 28)).alloc (.cells #[.int .u64 0, .int .u64 0, .int .u64 0, .int .u64 0] 28)).alloc (.cells #[.int .u64 0, .int .u64 0, .int .u64 0, .int .u64 0] 28)).alloc (.cells #[.int .u64 0, .int .u64 0, .int .u64 0, .int .u64 0] 28)) = w00 at *
  obtain ⟨JXl, JX0, JX1, JX2, JX3⟩ := JX.k
  obtain ⟨JYl, JY0, JY1, JY2, JY3⟩ := JY.k
  obtain ⟨JRal, JRa0, JRa1, JRa2, JRa3, JRaf0, JRaf1, JRaf2, JRaf3⟩ := id JRa
  obtain ⟨JRbl, JRb0, JRb1, JRb2, JRb3, JRbf0, JRbf1, JRbf2, JRbf3⟩ := id JRb
  obtain ⟨JNl, JN0, JN1, JN2, JN3⟩ := JN.k
  have lb := B.size
  go_wp2_with fail
  refine (X1.out _).mono ?_
  rintro e w_ ⟨rfl, rfl⟩
  clear JX0 JX1 JX2 JX3 JXl JY0 JY1 JY2 JY3 JYl JRa0 JRa1 JRa2 JRa3 JRal JRaf0 JRaf1 JRaf2 JRaf3 JRb0 JRb1 JRb2 JRb3 JRbl JRbf0 JRbf1 JRbf2 JRbf3 JN0 JN1 JN2 JN3 JNl lb
  obtain ⟨JXl, JX0, JX1, JX2, JX3⟩ := JX.k
  obtain ⟨JYl, JY0, JY1, JY2, JY3⟩ := JY.k
  obtain ⟨JRal, JRa0, JRa1, JRa2, JRa3, JRaf0, JRaf1, JRaf2, JRaf3⟩ := id JRa
  obtain ⟨JRbl, JRb0, JRb1, JRb2, JRb3, JRbf0, JRbf1, JRbf2, JRbf3⟩ := id JRb
  obtain ⟨JNl, JN0, JN1, JN2, JN3⟩ := JN.k
  have lb := B.size
  go_wp2_with fail
  refine (X2.out _).mono ?_
  rintro e w1 ⟨rfl, z⟩
  clear JX0 JX1 JX2 JX3 JXl JY0 JY1 JY2 JY3 JYl JRa0 JRa1 JRa2 JRa3 JRal JRaf0 JRaf1 JRaf2 JRaf3 JRb0 JRb1 JRb2 JRb3 JRbl JRbf0 JRbf1 JRbf2 JRbf3 JN0 JN1 JN2 JN3 JNl lb
  replace JX := JX.below z
  replace JY := JY.below z
  replace JRa := JRa.below z
  replace JRb := JRb.below z
  replace JN := JN.below z
  replace B := below_next B z
  clear z
  obtain ⟨JXl, JX0, JX1, JX2, JX3⟩ := JX.k
  obtain ⟨JYl, JY0, JY1, JY2, JY3⟩ := JY.k
  obtain ⟨JRal, JRa0, JRa1, JRa2, JRa3, JRaf0, JRaf1, JRaf2, JRaf3⟩ := id JRa
  obtain ⟨JRbl, JRb0, JRb1, JRb2, JRb3, JRbf0, JRbf1, JRbf2, JRbf3⟩ := id JRb
  obtain ⟨JNl, JN0, JN1, JN2, JN3⟩ := JN.k
  have lb := B.size
  go_wp2_with fail
  clear JX0 JX1 JX2 JX3 JXl JY0 JY1 JY2 JY3 JYl JRa0 JRa1 JRa2 JRa3 JRal JRaf0 JRaf1 JRaf2 JRaf3 JRb0 JRb1 JRb2 JRb3 JRbl JRbf0 JRbf1 JRbf2 JRbf3 JN0 JN1 JN2 JN3 JNl lb
  obtain ⟨JXdl, JXd0, JXd1, JXd2, JXd3, JXdf0, JXdf1, JXdf2, JXdf3⟩ := id JX
  obtain ⟨JYdl, JYd0, JYd1, JYd2, JYd3, JYdf0, JYdf1, JYdf2, JYdf3⟩ := id JY
  obtain ⟨JRadl, JRad0, JRad1, JRad2, JRad3, JRadf0, JRadf1, JRadf2, JRadf3⟩ := id JRa
  obtain ⟨JRbdl, JRbd0, JRbd1, JRbd2, JRbd3, JRbdf0, JRbdf1, JRbdf2, JRbdf3⟩ := id JRb
  obtain ⟨JNdl, JNd0, JNd1, JNd2, JNd3, JNdf0, JNdf1, JNdf2, JNdf3⟩ := id JN
  have ld := B.size
  apply cutF (F := fun W' => SC W' (w.heap.size) ((v, m), l, h) ∧ SC W' (w.heap.size + 1) ((v', m'), l', h') ∧ SC W' (w.heap.size + 1 + 1) (sc0) ∧ SC W' (w.heap.size + 1 + 1 + 1) (sc0) ∧ SC W' (w.heap.size + 1 + 1 + 1 + 1) sc0 ∧ Below w.heap.size w W')
  · go_region
    all_goals exact ⟨⟨(((JX.other (c := w.heap.size + 1 + 1) (by omega) (sc0)).other (c := w.heap.size + 1 + 1 + 1) (by omega) (sc0)).below (below_dr _)), (((JY.other (c := w.heap.size + 1 + 1) (by omega) (sc0)).other (c := w.heap.size + 1 + 1 + 1) (by omega) (sc0)).below (below_dr _)), (((JRa.put (sc0)).other (c := w.heap.size + 1 + 1 + 1) (by omega) (sc0)).below (below_dr _)), (((JRb.other (c := w.heap.size + 1 + 1) (by omega) (sc0)).put (sc0)).below (below_dr _)), (((JN.other (c := w.heap.size + 1 + 1) (by omega) (sc0)).other (c := w.heap.size + 1 + 1 + 1) (by omega) (sc0)).below (below_dr _)), below_next (putS_below (sc0) (putS_below (sc0) B (by omega : w.heap.size ≤ w.heap.size + 1 + 1)) (by omega : w.heap.size ≤ w.heap.size + 1 + 1 + 1)) (below_dr _)⟩, rfl⟩
  clear JXd0 JXd1 JXd2 JXd3 JXdl JXdf0 JXdf1 JXdf2 JXdf3 JYd0 JYd1 JYd2 JYd3 JYdl JYdf0 JYdf1 JYdf2 JYdf3 JRad0 JRad1 JRad2 JRad3 JRadl JRadf0 JRadf1 JRadf2 JRadf3 JRbd0 JRbd1 JRbd2 JRbd3 JRbdl JRbdf0 JRbdf1 JRbdf2 JRbdf3 JNd0 JNd1 JNd2 JNd3 JNdl JNdf0 JNdf1 JNdf2 JNdf3 ld
  clear JX JY JRa JRb JN B
  intro w2 ⟨JX, JY, JRa, JRb, JN, B⟩
  obtain ⟨JXl, JX0, JX1, JX2, JX3⟩ := JX.k
  obtain ⟨JYl, JY0, JY1, JY2, JY3⟩ := JY.k
  obtain ⟨JRal, JRa0, JRa1, JRa2, JRa3, JRaf0, JRaf1, JRaf2, JRaf3⟩ := id JRa
  obtain ⟨JRbl, JRb0, JRb1, JRb2, JRb3, JRbf0, JRbf1, JRbf2, JRbf3⟩ := id JRb
  obtain ⟨JNl, JN0, JN1, JN2, JN3⟩ := JN.k
  have lb := B.size
  go_wp2
  exact bodyPost_ret (v := .tuple #[sv sc0, sv sc0, .bool false]) (by simp [results, Tryz.results30, go_sem, JX0, JX1, JX2, JX3, JXl, JY0, JY1, JY2, JY3, JYl, JRa0, JRa1, JRa2, JRa3, JRal, JRb0, JRb1, JRb2, JRb3, JRbl, JN0, JN1, JN2, JN3, JNl]; try first | rfl | exact ⟨rfl, rfl⟩) rfl ⟨rfl, B⟩
set_option maxHeartbeats 16000000 in
theorem rRefine_nb (op : Int) (c : Bool) (a b : Sc) (k : Bool) (h : Wd.isCond op = true) (ha : mayX a = true) (hb : mayX b = false) (w : World) : Calls Tryz.prog 30 #[.int .i64 op, .bool c, sv a, sv b, .bool k] w fun e w' => e = .returned (tri noT) ∧ Below w.heap.size w w' := by
  have X1 := fun W => Wd.rcond_any op c 0 0 W (by decide) (by decide) (by decide) (by decide)
  have X2 := fun W => rMayX_any a W
  have X3 := fun W => rMayX_any b W
  generalize Wd.condI op c 0 0 = N at X1
  rw [show Wd.condE op = 0 from if_pos h] at X1
  rw [ha] at X2
  rw [hb] at X3
  clear h ha hb
  obtain ⟨⟨v, m⟩, l, h⟩ := a
  obtain ⟨⟨v', m'⟩, l', h'⟩ := b
  unfold tri noT
  unfold sv at X2 X3 ⊢
  dsimp only at X2 X3 ⊢
  replace X1 := hid X1
  replace X2 := hid X2
  replace X3 := hid X3
  go_enter Tryz.func30, Tryz.ntmps30
  go_wp2_with fail
  have JX : SC (((((w.alloc (.cells #[.int .u64 (ub v), .int .u64 (ub m), .int .u64 (ub l), .int .u64 (ub h)] 28)).alloc (.cells #[.int .u64 (ub v'), .int .u64 (ub m'), .int .u64 (ub l'), .int .u64 (ub h')] 28)).alloc (.cells #[.int .u64 0, .int .u64 0, .int .u64 0, .int .u64 0] 28)).alloc (.cells #[.int .u64 0, .int .u64 0, .int .u64 0, .int .u64 0] 28)).alloc (.cells #[.int .u64 0, .int .u64 0, .int .u64 0, .int .u64 0] 28)) (w.heap.size) ((v, m), l, h) := (((((SC.new (x := ((v, m), l, h)) rfl).alloc _).alloc _).alloc _).alloc _)
  have JY : SC (((((w.alloc (.cells #[.int .u64 (ub v), .int .u64 (ub m), .int .u64 (ub l), .int .u64 (ub h)] 28)).alloc (.cells #[.int .u64 (ub v'), .int .u64 (ub m'), .int .u64 (ub l'), .int .u64 (ub h')] 28)).alloc (.cells #[.int .u64 0, .int .u64 0, .int .u64 0, .int .u64 0] 28)).alloc (.cells #[.int .u64 0, .int .u64 0, .int .u64 0, .int .u64 0] 28)).alloc (.cells #[.int .u64 0, .int .u64 0, .int .u64 0, .int .u64 0] 28)) (w.heap.size + 1) ((v', m'), l', h') := ((((SC.new (x := ((v', m'), l', h')) (by simp)).alloc _).alloc _).alloc _)
  have JRa : SC (((((w.alloc (.cells #[.int .u64 (ub v), .int .u64 (ub m), .int .u64 (ub l), .int .u64 (ub h)] 28)).alloc (.cells #[.int .u64 (ub v'), .int .u64 (ub m'), .int .u64 (ub l'), .int .u64 (ub h')] 28)).alloc (.cells #[.int .u64 0, .int .u64 0, .int .u64 0, .int .u64 0] 28)).alloc (.cells #[.int .u64 0, .int .u64 0, .int .u64 0, .int .u64 0] 28)).alloc (.cells #[.int .u64 0, .int .u64 0, .int .u64 0, .int .u64 0] 28)) (w.heap.size + 1 + 1) sc0 := (((SC.new (x := sc0) (by simp)).alloc _).alloc _)
  have JRb : SC (((((w.alloc (.cells #[.int .u64 (ub v), .int .u64 (ub m), .int .u64 (ub l), .int .u64 (ub h)] 28)).alloc (.cells #[.int .u64 (ub v'), .int .u64 (ub m'), .int .u64 (ub l'), .int .u64 (ub h')] 28)).alloc (.cells #[.int .u64 0, .int .u64 0, .int .u64 0, .int .u64 0] 28)).alloc (.cells #[.int .u64 0, .int .u64 0, .int .u64 0, .int .u64 0] 28)).alloc (.cells #[.int .u64 0, .int .u64 0, .int .u64 0, .int .u64 0] 28)) (w.heap.size + 1 + 1 + 1) sc0 := ((SC.new (x := sc0) (by simp)).alloc _)
  have JN : SC (((((w.alloc (.cells #[.int .u64 (ub v), .int .u64 (ub m), .int .u64 (ub l), .int .u64 (ub h)] 28)).alloc (.cells #[.int .u64 (ub v'), .int .u64 (ub m'), .int .u64 (ub l'), .int .u64 (ub h')] 28)).alloc (.cells #[.int .u64 0, .int .u64 0, .int .u64 0, .int .u64 0] 28)).alloc (.cells #[.int .u64 0, .int .u64 0, .int .u64 0, .int .u64 0] 28)).alloc (.cells #[.int .u64 0, .int .u64 0, .int .u64 0, .int .u64 0] 28)) (w.heap.size + 1 + 1 + 1 + 1) sc0 := (SC.new (x := sc0) (by simp))
  have B : Below w.heap.size w (((((w.alloc (.cells #[.int .u64 (ub v), .int .u64 (ub m), .int .u64 (ub l), .int .u64 (ub h)] 28)).alloc (.cells #[.int .u64 (ub v'), .int .u64 (ub m'), .int .u64 (ub l'), .int .u64 (ub h')] 28)).alloc (.cells #[.int .u64 0, .int .u64 0, .int .u64 0, .int .u64 0] 28)).alloc (.cells #[.int .u64 0, .int .u64 0, .int .u64 0, .int .u64 0] 28)).alloc (.cells #[.int .u64 0, .int .u64 0, .int .u64 0, .int .u64 0] 28)) := (bel_alloc (bel_alloc (bel_alloc (bel_alloc (bel_alloc (Below.refl _ _))))))
  generalize (((((w.alloc (.cells #[.int .u64 (ub v), .int .u64 (ub m), .int .u64 (ub l), .int .u64 (ub h)] 28)).alloc (.cells #[.int .u64 (ub v'), .int .u64 (ub m'), .int .u64 (ub l'), .int .u64 (ub h')] 28)).alloc (.cells #[.int .u64 0, .int .u64 0, .int .u64 0, .int .u64 0] 28)).alloc (.cells #[.int .u64 0, .int .u64 0, .int .u64 0, .int .u64 0] 28)).alloc (.cells #[.int .u64 0, .int .u64 0, .int .u64 0, .int .u64 0] 28)) = w00 at *
  obtain ⟨JXl, JX0, JX1, JX2, JX3⟩ := JX.k
  obtain ⟨JYl, JY0, JY1, JY2, JY3⟩ := JY.k
  obtain ⟨JRal, JRa0, JRa1, JRa2, JRa3, JRaf0, JRaf1, JRaf2, JRaf3⟩ := id JRa
  obtain ⟨JRbl, JRb0, JRb1, JRb2, JRb3, JRbf0, JRbf1, JRbf2, JRbf3⟩ := id JRb
  obtain ⟨JNl, JN0, JN1, JN2, JN3⟩ := JN.k
  have lb := B.size
  go_wp2_with fail
  refine (X1.out _).mono ?_
  rintro e w_ ⟨rfl, rfl⟩
  clear JX0 JX1 JX2 JX3 JXl JY0 JY1 JY2 JY3 JYl JRa0 JRa1 JRa2 JRa3 JRal JRaf0 JRaf1 JRaf2 JRaf3 JRb0 JRb1 JRb2 JRb3 JRbl JRbf0 JRbf1 JRbf2 JRbf3 JN0 JN1 JN2 JN3 JNl lb
  obtain ⟨JXl, JX0, JX1, JX2, JX3⟩ := JX.k
  obtain ⟨JYl, JY0, JY1, JY2, JY3⟩ := JY.k
  obtain ⟨JRal, JRa0, JRa1, JRa2, JRa3, JRaf0, JRaf1, JRaf2, JRaf3⟩ := id JRa
  obtain ⟨JRbl, JRb0, JRb1, JRb2, JRb3, JRbf0, JRbf1, JRbf2, JRbf3⟩ := id JRb
  obtain ⟨JNl, JN0, JN1, JN2, JN3⟩ := JN.k
  have lb := B.size
  go_wp2_with fail
  refine (X2.out _).mono ?_
  rintro e w1 ⟨rfl, z⟩
  clear JX0 JX1 JX2 JX3 JXl JY0 JY1 JY2 JY3 JYl JRa0 JRa1 JRa2 JRa3 JRal JRaf0 JRaf1 JRaf2 JRaf3 JRb0 JRb1 JRb2 JRb3 JRbl JRbf0 JRbf1 JRbf2 JRbf3 JN0 JN1 JN2 JN3 JNl lb
  replace JX := JX.below z
  replace JY := JY.below z
  replace JRa := JRa.below z
  replace JRb := JRb.below z
  replace JN := JN.below z
  replace B := below_next B z
  clear z
  obtain ⟨JXl, JX0, JX1, JX2, JX3⟩ := JX.k
  obtain ⟨JYl, JY0, JY1, JY2, JY3⟩ := JY.k
  obtain ⟨JRal, JRa0, JRa1, JRa2, JRa3, JRaf0, JRaf1, JRaf2, JRaf3⟩ := id JRa
  obtain ⟨JRbl, JRb0, JRb1, JRb2, JRb3, JRbf0, JRbf1, JRbf2, JRbf3⟩ := id JRb
  obtain ⟨JNl, JN0, JN1, JN2, JN3⟩ := JN.k
  have lb := B.size
  go_wp2_with fail
  refine (X3.out _).mono ?_
  rintro e w2 ⟨rfl, z⟩
  clear JX0 JX1 JX2 JX3 JXl JY0 JY1 JY2 JY3 JYl JRa0 JRa1 JRa2 JRa3 JRal JRaf0 JRaf1 JRaf2 JRaf3 JRb0 JRb1 JRb2 JRb3 JRbl JRbf0 JRbf1 JRbf2 JRbf3 JN0 JN1 JN2 JN3 JNl lb
  replace JX := JX.below z
  replace JY := JY.below z
  replace JRa := JRa.below z
  replace JRb := JRb.below z
  replace JN := JN.below z
  replace B := below_next B z
  clear z
  obtain ⟨JXl, JX0, JX1, JX2, JX3⟩ := JX.k
  obtain ⟨JYl, JY0, JY1, JY2, JY3⟩ := JY.k
  obtain ⟨JRal, JRa0, JRa1, JRa2, JRa3, JRaf0, JRaf1, JRaf2, JRaf3⟩ := id JRa
  obtain ⟨JRbl, JRb0, JRb1, JRb2, JRb3, JRbf0, JRbf1, JRbf2, JRbf3⟩ := id JRb
  obtain ⟨JNl, JN0, JN1, JN2, JN3⟩ := JN.k
  have lb := B.size
  go_wp2_with fail
  clear JX0 JX1 JX2 JX3 JXl JY0 JY1 JY2 JY3 JYl JRa0 JRa1 JRa2 JRa3 JRal JRaf0 JRaf1 JRaf2 JRaf3 JRb0 JRb1 JRb2 JRb3 JRbl JRbf0 JRbf1 JRbf2 JRbf3 JN0 JN1 JN2 JN3 JNl lb
  obtain ⟨JXdl, JXd0, JXd1, JXd2, JXd3, JXdf0, JXdf1, JXdf2, JXdf3⟩ := id JX
  obtain ⟨JYdl, JYd0, JYd1, JYd2, JYd3, JYdf0, JYdf1, JYdf2, JYdf3⟩ := id JY
  obtain ⟨JRadl, JRad0, JRad1, JRad2, JRad3, JRadf0, JRadf1, JRadf2, JRadf3⟩ := id JRa
  obtain ⟨JRbdl, JRbd0, JRbd1, JRbd2, JRbd3, JRbdf0, JRbdf1, JRbdf2, JRbdf3⟩ := id JRb
  obtain ⟨JNdl, JNd0, JNd1, JNd2, JNd3, JNdf0, JNdf1, JNdf2, JNdf3⟩ := id JN
  have ld := B.size
  apply cutF (F := fun W' => SC W' (w.heap.size) ((v, m), l, h) ∧ SC W' (w.heap.size + 1) ((v', m'), l', h') ∧ SC W' (w.heap.size + 1 + 1) (sc0) ∧ SC W' (w.heap.size + 1 + 1 + 1) (sc0) ∧ SC W' (w.heap.size + 1 + 1 + 1 + 1) sc0 ∧ Below w.heap.size w W')
  · go_region
    all_goals exact ⟨⟨(((JX.other (c := w.heap.size + 1 + 1) (by omega) (sc0)).other (c := w.heap.size + 1 + 1 + 1) (by omega) (sc0)).below (below_dr _)), (((JY.other (c := w.heap.size + 1 + 1) (by omega) (sc0)).other (c := w.heap.size + 1 + 1 + 1) (by omega) (sc0)).below (below_dr _)), (((JRa.put (sc0)).other (c := w.heap.size + 1 + 1 + 1) (by omega) (sc0)).below (below_dr _)), (((JRb.other (c := w.heap.size + 1 + 1) (by omega) (sc0)).put (sc0)).below (below_dr _)), (((JN.other (c := w.heap.size + 1 + 1) (by omega) (sc0)).other (c := w.heap.size + 1 + 1 + 1) (by omega) (sc0)).below (below_dr _)), below_next (putS_below (sc0) (putS_below (sc0) B (by omega : w.heap.size ≤ w.heap.size + 1 + 1)) (by omega : w.heap.size ≤ w.heap.size + 1 + 1 + 1)) (below_dr _)⟩, rfl⟩
  clear JXd0 JXd1 JXd2 JXd3 JXdl JXdf0 JXdf1 JXdf2 JXdf3 JYd0 JYd1 JYd2 JYd3 JYdl JYdf0 JYdf1 JYdf2 JYdf3 JRad0 JRad1 JRad2 JRad3 JRadl JRadf0 JRadf1 JRadf2 JRadf3 JRbd0 JRbd1 JRbd2 JRbd3 JRbdl JRbdf0 JRbdf1 JRbdf2 JRbdf3 JNd0 JNd1 JNd2 JNd3 JNdl JNdf0 JNdf1 JNdf2 JNdf3 ld
  clear JX JY JRa JRb JN B
  intro w3 ⟨JX, JY, JRa, JRb, JN, B⟩
  obtain ⟨JXl, JX0, JX1, JX2, JX3⟩ := JX.k
  obtain ⟨JYl, JY0, JY1, JY2, JY3⟩ := JY.k
  obtain ⟨JRal, JRa0, JRa1, JRa2, JRa3, JRaf0, JRaf1, JRaf2, JRaf3⟩ := id JRa
  obtain ⟨JRbl, JRb0, JRb1, JRb2, JRb3, JRbf0, JRbf1, JRbf2, JRbf3⟩ := id JRb
  obtain ⟨JNl, JN0, JN1, JN2, JN3⟩ := JN.k
  have lb := B.size
  go_wp2
  exact bodyPost_ret (v := .tuple #[sv sc0, sv sc0, .bool false]) (by simp [results, Tryz.results30, go_sem, JX0, JX1, JX2, JX3, JXl, JY0, JY1, JY2, JY3, JYl, JRa0, JRa1, JRa2, JRa3, JRal, JRb0, JRb1, JRb2, JRb3, JRbl, JN0, JN1, JN2, JN3, JNl]; try first | rfl | exact ⟨rfl, rfl⟩) rfl ⟨rfl, B⟩
end Go.Proofs.YtodmikjpmcabiaaGreat
