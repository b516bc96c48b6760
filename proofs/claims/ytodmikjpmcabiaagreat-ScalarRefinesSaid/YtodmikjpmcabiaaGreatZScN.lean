import Derived.Test.YtodmikjpmcabiaaGreatZScJ
import Derived.Test.YtodmikjpmcabiaaGreatZScL
import Derived.Test.YtodmikjpmcabiaaGreatZScM
import Derived.Deep.RegionLaw
import Derived.BigRegion
namespace Go.Proofs.YtodmikjpmcabiaaGreat
set_option linter.unusedSimpArgs false
set_option linter.unusedVariables false
set_option maxRecDepth 100000
open Go.ChangeShapes Go.WideShapes Go.ChangeAt Go.RowKit

def swp (r : Sc × Sc × Bool) : Sc × Sc × Bool := (r.2.1, r.1, r.2.2)
def tolQ (q : Int) (a b : Sc) : Sc × Sc × Bool :=
  if q = 1 then (optS (meetO a b), optS (meetO a b), (meetO a b).isSome)
  else if q = 5 then (optS (wthO a b), optS (wthO b a), (wthO a b).isSome && (wthO b a).isSome)
  else if q = 2 then abvT a b 1#64 else if q = 3 then abvT a b 0#64 else if q = 10 then swp (abvT b a 1#64) else swp (abvT b a 0#64)
def tolT (op : Int) (a b : Sc) (k : Bool) : Sc × Sc × Bool :=
  if unsI op = 4 then comT a b k else tolQ (if k = true then unsI op else oppI (unsI op)) a b
set_option maxHeartbeats 8000000 in
theorem cTold_set (op : Int) (a b : Sc) (k : Bool) (hu : unsI op = 4) (w : World) : Calls Tryz.prog 62 #[.int .i64 op, sv a, sv b, .bool k] w fun e w' => e = .returned (tri (comT a b k)) ∧ Below w.heap.size w w' := by
  have X1 := fun W => cUns_any op W
  rw [hu] at X1
  have X3 := fun W => cCommon_any a b k W
  generalize comT a b k = R at *
  clear hu
  obtain ⟨⟨v, m⟩, l, h⟩ := a
  obtain ⟨⟨v', m'⟩, l', h'⟩ := b
  unfold triv at X3
  unfold tri
  unfold sv at X3 ⊢
  dsimp only at X3 ⊢
  replace X1 := hid X1
  replace X3 := hid X3
  go_enter Tryz.func62, Tryz.ntmps62
  go_wp2_with fail
  have JX : SC ((((w.alloc (.cells #[.int .u64 (ub v), .int .u64 (ub m), .int .u64 (ub l), .int .u64 (ub h)] 28)).alloc (.cells #[.int .u64 (ub v'), .int .u64 (ub m'), .int .u64 (ub l'), .int .u64 (ub h')] 28)).alloc (.cells #[.int .u64 0, .int .u64 0, .int .u64 0, .int .u64 0] 28)).alloc (.cells #[.int .u64 0, .int .u64 0, .int .u64 0, .int .u64 0] 28)) (w.heap.size) ((v, m), l, h) := ((((SC.new (x := ((v, m), l, h)) rfl).alloc _).alloc _).alloc _)
  have JY : SC ((((w.alloc (.cells #[.int .u64 (ub v), .int .u64 (ub m), .int .u64 (ub l), .int .u64 (ub h)] 28)).alloc (.cells #[.int .u64 (ub v'), .int .u64 (ub m'), .int .u64 (ub l'), .int .u64 (ub h')] 28)).alloc (.cells #[.int .u64 0, .int .u64 0, .int .u64 0, .int .u64 0] 28)).alloc (.cells #[.int .u64 0, .int .u64 0, .int .u64 0, .int .u64 0] 28)) (w.heap.size + 1) ((v', m'), l', h') := (((SC.new (x := ((v', m'), l', h')) (by simp)).alloc _).alloc _)
  have JR : SC ((((w.alloc (.cells #[.int .u64 (ub v), .int .u64 (ub m), .int .u64 (ub l), .int .u64 (ub h)] 28)).alloc (.cells #[.int .u64 (ub v'), .int .u64 (ub m'), .int .u64 (ub l'), .int .u64 (ub h')] 28)).alloc (.cells #[.int .u64 0, .int .u64 0, .int .u64 0, .int .u64 0] 28)).alloc (.cells #[.int .u64 0, .int .u64 0, .int .u64 0, .int .u64 0] 28)) (w.heap.size + 1 + 1) sc0 := ((SC.new (x := sc0) (by simp)).alloc _)
  have JRb : SC ((((w.alloc (.cells #[.int .u64 (ub v), .int .u64 (ub m), .int .u64 (ub l), .int .u64 (ub h)] 28)).alloc (.cells #[.int .u64 (ub v'), .int .u64 (ub m'), .int .u64 (ub l'), .int .u64 (ub h')] 28)).alloc (.cells #[.int .u64 0, .int .u64 0, .int .u64 0, .int .u64 0] 28)).alloc (.cells #[.int .u64 0, .int .u64 0, .int .u64 0, .int .u64 0] 28)) (w.heap.size + 1 + 1 + 1) sc0 := (SC.new (x := sc0) (by simp))
  have B : Below w.heap.size w ((((w.alloc (.cells #[.int .u64 (ub v), .int .u64 (ub m), .int .u64 (ub l), .int .u64 (ub h)] 28)).alloc (.cells #[.int .u64 (ub v'), .int .u64 (ub m'), .int .u64 (ub l'), .int .u64 (ub h')] 28)).alloc (.cells #[.int .u64 0, .int .u64 0, .int .u64 0, .int .u64 0] 28)).alloc (.cells #[.int .u64 0, .int .u64 0, .int .u64 0, .int .u64 0] 28)) := (bel_alloc (bel_alloc (bel_alloc (bel_alloc (Below.refl _ _)))))
  generalize ((((w.alloc (.cells #[.int .u64 (ub v), .int .u64 (ub m), .int .u64 (ub l), .int .u64 (ub h)] 28)).alloc (.cells #[.int .u64 (ub v'), .int .u64 (ub m'), .int .u64 (ub l'), .int .u64 (ub h')] 28)).alloc (.cells #[.int .u64 0, .int .u64 0, .int .u64 0, .int .u64 0] 28)).alloc (.cells #[.int .u64 0, .int .u64 0, .int .u64 0, .int .u64 0] 28)) = w00 at *
  obtain ⟨JXl, JX0, JX1, JX2, JX3⟩ := JX.k
  obtain ⟨JYl, JY0, JY1, JY2, JY3⟩ := JY.k
  obtain ⟨JRl, JR0, JR1, JR2, JR3, JRf0, JRf1, JRf2, JRf3⟩ := id JR
  obtain ⟨JRbl, JRb0, JRb1, JRb2, JRb3, JRbf0, JRbf1, JRbf2, JRbf3⟩ := id JRb
  have lb := B.size
  go_wp2_with fail
  refine (X1.out _).mono ?_
  rintro e w_ ⟨rfl, rfl⟩
  clear JX0 JX1 JX2 JX3 JXl JY0 JY1 JY2 JY3 JYl JR0 JR1 JR2 JR3 JRl JRf0 JRf1 JRf2 JRf3 JRb0 JRb1 JRb2 JRb3 JRbl JRbf0 JRbf1 JRbf2 JRbf3 lb
  obtain ⟨JXl, JX0, JX1, JX2, JX3⟩ := JX.k
  obtain ⟨JYl, JY0, JY1, JY2, JY3⟩ := JY.k
  obtain ⟨JRl, JR0, JR1, JR2, JR3, JRf0, JRf1, JRf2, JRf3⟩ := id JR
  obtain ⟨JRbl, JRb0, JRb1, JRb2, JRb3, JRbf0, JRbf1, JRbf2, JRbf3⟩ := id JRb
  have lb := B.size
  go_wp2_with fail
  refine (X3.out _).mono ?_
  rintro e w1 ⟨rfl, z⟩
  clear JX0 JX1 JX2 JX3 JXl JY0 JY1 JY2 JY3 JYl JR0 JR1 JR2 JR3 JRl JRf0 JRf1 JRf2 JRf3 JRb0 JRb1 JRb2 JRb3 JRbl JRbf0 JRbf1 JRbf2 JRbf3 lb
  replace JX := JX.below z
  replace JY := JY.below z
  replace JR := JR.below z
  replace JRb := JRb.below z
  replace B := below_next B z
  clear z
  obtain ⟨JXl, JX0, JX1, JX2, JX3⟩ := JX.k
  obtain ⟨JYl, JY0, JY1, JY2, JY3⟩ := JY.k
  obtain ⟨JRl, JR0, JR1, JR2, JR3, JRf0, JRf1, JRf2, JRf3⟩ := id JR
  obtain ⟨JRbl, JRb0, JRb1, JRb2, JRb3, JRbf0, JRbf1, JRbf2, JRbf3⟩ := id JRb
  have lb := B.size
  go_wp2
  exact bodyPost_ret (v := .tuple #[sv R.1, sv R.2.1, .bool R.2.2]) (by simp [results, Tryz.results62, go_sem, JX0, JX1, JX2, JX3, JXl, JY0, JY1, JY2, JY3, JYl, JR0, JR1, JR2, JR3, JRl, JRb0, JRb1, JRb2, JRb3, JRbl]; try first | rfl | exact ⟨rfl, rfl⟩) rfl ⟨rfl, putS_below R.2.1 (putS_below R.1 B (by omega)) (by omega)⟩
set_option maxHeartbeats 8000000 in
theorem cTold_y_1 (op : Int) (a b : Sc) (hu : unsI op = 1) (w : World) : Calls Tryz.prog 62 #[.int .i64 op, sv a, sv b, .bool true] w fun e w' => e = .returned (tri ((optS (meetO a b), optS (meetO a b), (meetO a b).isSome))) ∧ Below w.heap.size w w' := by
  have X1 := fun W => cUns_any op W
  rw [hu] at X1
  have X3 := fun W => cMeet_any a b W
  generalize (meetO a b).isSome = K at *
  generalize optS (meetO a b) = P at *
  clear hu
  obtain ⟨⟨v, m⟩, l, h⟩ := a
  obtain ⟨⟨v', m'⟩, l', h'⟩ := b
  unfold tri
  unfold sv at X3 ⊢
  dsimp only at X3 ⊢
  replace X1 := hid X1
  replace X3 := hid X3
  go_enter Tryz.func62, Tryz.ntmps62
  go_wp2_with fail
  have JX : SC ((((w.alloc (.cells #[.int .u64 (ub v), .int .u64 (ub m), .int .u64 (ub l), .int .u64 (ub h)] 28)).alloc (.cells #[.int .u64 (ub v'), .int .u64 (ub m'), .int .u64 (ub l'), .int .u64 (ub h')] 28)).alloc (.cells #[.int .u64 0, .int .u64 0, .int .u64 0, .int .u64 0] 28)).alloc (.cells #[.int .u64 0, .int .u64 0, .int .u64 0, .int .u64 0] 28)) (w.heap.size) ((v, m), l, h) := ((((SC.new (x := ((v, m), l, h)) rfl).alloc _).alloc _).alloc _)
  have JY : SC ((((w.alloc (.cells #[.int .u64 (ub v), .int .u64 (ub m), .int .u64 (ub l), .int .u64 (ub h)] 28)).alloc (.cells #[.int .u64 (ub v'), .int .u64 (ub m'), .int .u64 (ub l'), .int .u64 (ub h')] 28)).alloc (.cells #[.int .u64 0, .int .u64 0, .int .u64 0, .int .u64 0] 28)).alloc (.cells #[.int .u64 0, .int .u64 0, .int .u64 0, .int .u64 0] 28)) (w.heap.size + 1) ((v', m'), l', h') := (((SC.new (x := ((v', m'), l', h')) (by simp)).alloc _).alloc _)
  have JR : SC ((((w.alloc (.cells #[.int .u64 (ub v), .int .u64 (ub m), .int .u64 (ub l), .int .u64 (ub h)] 28)).alloc (.cells #[.int .u64 (ub v'), .int .u64 (ub m'), .int .u64 (ub l'), .int .u64 (ub h')] 28)).alloc (.cells #[.int .u64 0, .int .u64 0, .int .u64 0, .int .u64 0] 28)).alloc (.cells #[.int .u64 0, .int .u64 0, .int .u64 0, .int .u64 0] 28)) (w.heap.size + 1 + 1) sc0 := ((SC.new (x := sc0) (by simp)).alloc _)
  have JRb : SC ((((w.alloc (.cells #[.int .u64 (ub v), .int .u64 (ub m), .int .u64 (ub l), .int .u64 (ub h)] 28)).alloc (.cells #[.int .u64 (ub v'), .int .u64 (ub m'), .int .u64 (ub l'), .int .u64 (ub h')] 28)).alloc (.cells #[.int .u64 0, .int .u64 0, .int .u64 0, .int .u64 0] 28)).alloc (.cells #[.int .u64 0, .int .u64 0, .int .u64 0, .int .u64 0] 28)) (w.heap.size + 1 + 1 + 1) sc0 := (SC.new (x := sc0) (by simp))
  have B : Below w.heap.size w ((((w.alloc (.cells #[.int .u64 (ub v), .int .u64 (ub m), .int .u64 (ub l), .int .u64 (ub h)] 28)).alloc (.cells #[.int .u64 (ub v'), .int .u64 (ub m'), .int .u64 (ub l'), .int .u64 (ub h')] 28)).alloc (.cells #[.int .u64 0, .int .u64 0, .int .u64 0, .int .u64 0] 28)).alloc (.cells #[.int .u64 0, .int .u64 0, .int .u64 0, .int .u64 0] 28)) := (bel_alloc (bel_alloc (bel_alloc (bel_alloc (Below.refl _ _)))))
  generalize ((((w.alloc (.cells #[.int .u64 (ub v), .int .u64 (ub m), .int .u64 (ub l), .int .u64 (ub h)] 28)).alloc (.cells #[.int .u64 (ub v'), .int .u64 (ub m'), .int .u64 (ub l'), .int .u64 (ub h')] 28)).alloc (.cells #[.int .u64 0, .int .u64 0, .int .u64 0, .int .u64 0] 28)).alloc (.cells #[.int .u64 0, .int .u64 0, .int .u64 0, .int .u64 0] 28)) = w00 at *
  obtain ⟨JXl, JX0, JX1, JX2, JX3⟩ := JX.k
  obtain ⟨JYl, JY0, JY1, JY2, JY3⟩ := JY.k
  obtain ⟨JRl, JR0, JR1, JR2, JR3, JRf0, JRf1, JRf2, JRf3⟩ := id JR
  obtain ⟨JRbl, JRb0, JRb1, JRb2, JRb3, JRbf0, JRbf1, JRbf2, JRbf3⟩ := id JRb
  have lb := B.size
  go_wp2_with fail
  refine (X1.out _).mono ?_
  rintro e w_ ⟨rfl, rfl⟩
  clear JX0 JX1 JX2 JX3 JXl JY0 JY1 JY2 JY3 JYl JR0 JR1 JR2 JR3 JRl JRf0 JRf1 JRf2 JRf3 JRb0 JRb1 JRb2 JRb3 JRbl JRbf0 JRbf1 JRbf2 JRbf3 lb
  obtain ⟨JXl, JX0, JX1, JX2, JX3⟩ := JX.k
  obtain ⟨JYl, JY0, JY1, JY2, JY3⟩ := JY.k
  obtain ⟨JRl, JR0, JR1, JR2, JR3, JRf0, JRf1, JRf2, JRf3⟩ := id JR
  obtain ⟨JRbl, JRb0, JRb1, JRb2, JRb3, JRbf0, JRbf1, JRbf2, JRbf3⟩ := id JRb
  have lb := B.size
  go_wp2_with fail
  refine (X3.out _).mono ?_
  rintro e w1 ⟨rfl, z⟩
  clear JX0 JX1 JX2 JX3 JXl JY0 JY1 JY2 JY3 JYl JR0 JR1 JR2 JR3 JRl JRf0 JRf1 JRf2 JRf3 JRb0 JRb1 JRb2 JRb3 JRbl JRbf0 JRbf1 JRbf2 JRbf3 lb
  replace JX := JX.below z
  replace JY := JY.below z
  replace JR := JR.below z
  replace JRb := JRb.below z
  replace B := below_next B z
  clear z
  obtain ⟨JXl, JX0, JX1, JX2, JX3⟩ := JX.k
  obtain ⟨JYl, JY0, JY1, JY2, JY3⟩ := JY.k
  obtain ⟨JRl, JR0, JR1, JR2, JR3, JRf0, JRf1, JRf2, JRf3⟩ := id JR
  obtain ⟨JRbl, JRb0, JRb1, JRb2, JRb3, JRbf0, JRbf1, JRbf2, JRbf3⟩ := id JRb
  have lb := B.size
  go_wp2_with fail
  clear JX0 JX1 JX2 JX3 JXl JY0 JY1 JY2 JY3 JYl JR0 JR1 JR2 JR3 JRl JRf0 JRf1 JRf2 JRf3 JRb0 JRb1 JRb2 JRb3 JRbl JRbf0 JRbf1 JRbf2 JRbf3 lb
  have JM : SC (w1.alloc (.cells #[.int .u64 (ub P.1.1), .int .u64 (ub P.1.2), .int .u64 (ub P.2.1), .int .u64 (ub P.2.2)] 28)) (w1.heap.size) P := (SC.new (x := P) rfl)
  have gq1JX : w.heap.size < w1.heap.size := JX.lt
  replace JX := (JX.alloc (.cells #[.int .u64 (ub P.1.1), .int .u64 (ub P.1.2), .int .u64 (ub P.2.1), .int .u64 (ub P.2.2)] 28))
  have gq1JY : w.heap.size + 1 < w1.heap.size := JY.lt
  replace JY := (JY.alloc (.cells #[.int .u64 (ub P.1.1), .int .u64 (ub P.1.2), .int .u64 (ub P.2.1), .int .u64 (ub P.2.2)] 28))
  have gq1JR : w.heap.size + 1 + 1 < w1.heap.size := JR.lt
  replace JR := (JR.alloc (.cells #[.int .u64 (ub P.1.1), .int .u64 (ub P.1.2), .int .u64 (ub P.2.1), .int .u64 (ub P.2.2)] 28))
  have gq1JRb : w.heap.size + 1 + 1 + 1 < w1.heap.size := JRb.lt
  replace JRb := (JRb.alloc (.cells #[.int .u64 (ub P.1.1), .int .u64 (ub P.1.2), .int .u64 (ub P.2.1), .int .u64 (ub P.2.2)] 28))
  replace B := (bel_alloc (o := (.cells #[.int .u64 (ub P.1.1), .int .u64 (ub P.1.2), .int .u64 (ub P.2.1), .int .u64 (ub P.2.2)] 28)) B)
  generalize (w1.alloc (.cells #[.int .u64 (ub P.1.1), .int .u64 (ub P.1.2), .int .u64 (ub P.2.1), .int .u64 (ub P.2.2)] 28)) = w2 at *
  obtain ⟨JXl, JX0, JX1, JX2, JX3⟩ := JX.k
  obtain ⟨JYl, JY0, JY1, JY2, JY3⟩ := JY.k
  obtain ⟨JRl, JR0, JR1, JR2, JR3, JRf0, JRf1, JRf2, JRf3⟩ := id JR
  obtain ⟨JRbl, JRb0, JRb1, JRb2, JRb3, JRbf0, JRbf1, JRbf2, JRbf3⟩ := id JRb
  obtain ⟨JMl, JM0, JM1, JM2, JM3⟩ := JM.k
  have lb := B.size
  go_wp2_with fail
  clear JX0 JX1 JX2 JX3 JXl JY0 JY1 JY2 JY3 JYl JR0 JR1 JR2 JR3 JRl JRf0 JRf1 JRf2 JRf3 JRb0 JRb1 JRb2 JRb3 JRbl JRbf0 JRbf1 JRbf2 JRbf3 JM0 JM1 JM2 JM3 JMl lb
  obtain ⟨JXdl, JXd0, JXd1, JXd2, JXd3, JXdf0, JXdf1, JXdf2, JXdf3⟩ := id JX
  obtain ⟨JYdl, JYd0, JYd1, JYd2, JYd3, JYdf0, JYdf1, JYdf2, JYdf3⟩ := id JY
  obtain ⟨JRdl, JRd0, JRd1, JRd2, JRd3, JRdf0, JRdf1, JRdf2, JRdf3⟩ := id JR
  obtain ⟨JRbdl, JRbd0, JRbd1, JRbd2, JRbd3, JRbdf0, JRbdf1, JRbdf2, JRbdf3⟩ := id JRb
  obtain ⟨JMdl, JMd0, JMd1, JMd2, JMd3, JMdf0, JMdf1, JMdf2, JMdf3⟩ := id JM
  have ld := B.size
  apply cutF (F := fun W' => SC W' (w.heap.size) ((v, m), l, h) ∧ SC W' (w.heap.size + 1) ((v', m'), l', h') ∧ SC W' (w.heap.size + 1 + 1) (P) ∧ SC W' (w.heap.size + 1 + 1 + 1) (P) ∧ SC W' (w1.heap.size) P ∧ Below w.heap.size w W')
  · go_region
    all_goals exact ⟨⟨(((JX.other (c := w.heap.size + 1 + 1) (by omega) (P)).other (c := w.heap.size + 1 + 1 + 1) (by omega) (P)).below (below_dr _)), (((JY.other (c := w.heap.size + 1 + 1) (by omega) (P)).other (c := w.heap.size + 1 + 1 + 1) (by omega) (P)).below (below_dr _)), (((JR.put (P)).other (c := w.heap.size + 1 + 1 + 1) (by omega) (P)).below (below_dr _)), (((JRb.other (c := w.heap.size + 1 + 1) (by omega) (P)).put (P)).below (below_dr _)), (((JM.other (c := w.heap.size + 1 + 1) (by omega) (P)).other (c := w.heap.size + 1 + 1 + 1) (by omega) (P)).below (below_dr _)), below_next (putS_below (P) (putS_below (P) B (by omega : w.heap.size ≤ w.heap.size + 1 + 1)) (by omega : w.heap.size ≤ w.heap.size + 1 + 1 + 1)) (below_dr _)⟩, rfl⟩
  clear JXd0 JXd1 JXd2 JXd3 JXdl JXdf0 JXdf1 JXdf2 JXdf3 JYd0 JYd1 JYd2 JYd3 JYdl JYdf0 JYdf1 JYdf2 JYdf3 JRd0 JRd1 JRd2 JRd3 JRdl JRdf0 JRdf1 JRdf2 JRdf3 JRbd0 JRbd1 JRbd2 JRbd3 JRbdl JRbdf0 JRbdf1 JRbdf2 JRbdf3 JMd0 JMd1 JMd2 JMd3 JMdl JMdf0 JMdf1 JMdf2 JMdf3 ld
  clear JX JY JR JRb JM B
  intro w3 ⟨JX, JY, JR, JRb, JM, B⟩
  obtain ⟨JXl, JX0, JX1, JX2, JX3⟩ := JX.k
  obtain ⟨JYl, JY0, JY1, JY2, JY3⟩ := JY.k
  obtain ⟨JRl, JR0, JR1, JR2, JR3, JRf0, JRf1, JRf2, JRf3⟩ := id JR
  obtain ⟨JRbl, JRb0, JRb1, JRb2, JRb3, JRbf0, JRbf1, JRbf2, JRbf3⟩ := id JRb
  obtain ⟨JMl, JM0, JM1, JM2, JM3⟩ := JM.k
  have lb := B.size
  go_wp2
  exact bodyPost_ret (v := .tuple #[sv P, sv P, .bool K]) (by simp [results, Tryz.results62, go_sem, JX0, JX1, JX2, JX3, JXl, JY0, JY1, JY2, JY3, JYl, JR0, JR1, JR2, JR3, JRl, JRb0, JRb1, JRb2, JRb3, JRbl, JM0, JM1, JM2, JM3, JMl]; try first | rfl | exact ⟨rfl, rfl⟩) rfl ⟨rfl, B⟩
set_option maxHeartbeats 8000000 in
theorem cTold_y_5 (op : Int) (a b : Sc) (hu : unsI op = 5) (w : World) : Calls Tryz.prog 62 #[.int .i64 op, sv a, sv b, .bool true] w fun e w' => e = .returned (tri ((optS (wthO a b), optS (wthO b a), (wthO a b).isSome && (wthO b a).isSome))) ∧ Below w.heap.size w w' := by
  have X1 := fun W => cUns_any op W
  rw [hu] at X1
  have X3 := fun W => cWithout_any a b W
  have X4 := fun W => cWithout_any b a W
  generalize (wthO a b).isSome = K at *
  generalize optS (wthO a b) = P at *
  generalize (wthO b a).isSome = K2 at *
  generalize optS (wthO b a) = Q at *
  clear hu
  obtain ⟨⟨v, m⟩, l, h⟩ := a
  obtain ⟨⟨v', m'⟩, l', h'⟩ := b
  unfold tri
  unfold sv at X3 X4 ⊢
  dsimp only at X3 X4 ⊢
  replace X1 := hid X1
  replace X3 := hid X3
  replace X4 := hid X4
  cases K
  · rw [Bool.false_and]
    go_enter Tryz.func62, Tryz.ntmps62
    go_wp2_with fail
    have JX : SC ((((w.alloc (.cells #[.int .u64 (ub v), .int .u64 (ub m), .int .u64 (ub l), .int .u64 (ub h)] 28)).alloc (.cells #[.int .u64 (ub v'), .int .u64 (ub m'), .int .u64 (ub l'), .int .u64 (ub h')] 28)).alloc (.cells #[.int .u64 0, .int .u64 0, .int .u64 0, .int .u64 0] 28)).alloc (.cells #[.int .u64 0, .int .u64 0, .int .u64 0, .int .u64 0] 28)) (w.heap.size) ((v, m), l, h) := ((((SC.new (x := ((v, m), l, h)) rfl).alloc _).alloc _).alloc _)
    have JY : SC ((((w.alloc (.cells #[.int .u64 (ub v), .int .u64 (ub m), .int .u64 (ub l), .int .u64 (ub h)] 28)).alloc (.cells #[.int .u64 (ub v'), .int .u64 (ub m'), .int .u64 (ub l'), .int .u64 (ub h')] 28)).alloc (.cells #[.int .u64 0, .int .u64 0, .int .u64 0, .int .u64 0] 28)).alloc (.cells #[.int .u64 0, .int .u64 0, .int .u64 0, .int .u64 0] 28)) (w.heap.size + 1) ((v', m'), l', h') := (((SC.new (x := ((v', m'), l', h')) (by simp)).alloc _).alloc _)
    have JR : SC ((((w.alloc (.cells #[.int .u64 (ub v), .int .u64 (ub m), .int .u64 (ub l), .int .u64 (ub h)] 28)).alloc (.cells #[.int .u64 (ub v'), .int .u64 (ub m'), .int .u64 (ub l'), .int .u64 (ub h')] 28)).alloc (.cells #[.int .u64 0, .int .u64 0, .int .u64 0, .int .u64 0] 28)).alloc (.cells #[.int .u64 0, .int .u64 0, .int .u64 0, .int .u64 0] 28)) (w.heap.size + 1 + 1) sc0 := ((SC.new (x := sc0) (by simp)).alloc _)
    have JRb : SC ((((w.alloc (.cells #[.int .u64 (ub v), .int .u64 (ub m), .int .u64 (ub l), .int .u64 (ub h)] 28)).alloc (.cells #[.int .u64 (ub v'), .int .u64 (ub m'), .int .u64 (ub l'), .int .u64 (ub h')] 28)).alloc (.cells #[.int .u64 0, .int .u64 0, .int .u64 0, .int .u64 0] 28)).alloc (.cells #[.int .u64 0, .int .u64 0, .int .u64 0, .int .u64 0] 28)) (w.heap.size + 1 + 1 + 1) sc0 := (SC.new (x := sc0) (by simp))
    have B : Below w.heap.size w ((((w.alloc (.cells #[.int .u64 (ub v), .int .u64 (ub m), .int .u64 (ub l), .int .u64 (ub h)] 28)).alloc (.cells #[.int .u64 (ub v'), .int .u64 (ub m'), .int .u64 (ub l'), .int .u64 (ub h')] 28)).alloc (.cells #[.int .u64 0, .int .u64 0, .int .u64 0, .int .u64 0] 28)).alloc (.cells #[.int .u64 0, .int .u64 0, .int .u64 0, .int .u64 0] 28)) := (bel_alloc (bel_alloc (bel_alloc (bel_alloc (Below.refl _ _)))))
    generalize ((((w.alloc (.cells #[.int .u64 (ub v), .int .u64 (ub m), .int .u64 (ub l), .int .u64 (ub h)] 28)).alloc (.cells #[.int .u64 (ub v'), .int .u64 (ub m'), .int .u64 (ub l'), .int .u64 (ub h')] 28)).alloc (.cells #[.int .u64 0, .int .u64 0, .int .u64 0, .int .u64 0] 28)).alloc (.cells #[.int .u64 0, .int .u64 0, .int .u64 0, .int .u64 0] 28)) = w00 at *
    obtain ⟨JXl, JX0, JX1, JX2, JX3⟩ := JX.k
    obtain ⟨JYl, JY0, JY1, JY2, JY3⟩ := JY.k
    obtain ⟨JRl, JR0, JR1, JR2, JR3, JRf0, JRf1, JRf2, JRf3⟩ := id JR
    obtain ⟨JRbl, JRb0, JRb1, JRb2, JRb3, JRbf0, JRbf1, JRbf2, JRbf3⟩ := id JRb
    have lb := B.size
    go_wp2_with fail
    refine (X1.out _).mono ?_
    rintro e w_ ⟨rfl, rfl⟩
    clear JX0 JX1 JX2 JX3 JXl JY0 JY1 JY2 JY3 JYl JR0 JR1 JR2 JR3 JRl JRf0 JRf1 JRf2 JRf3 JRb0 JRb1 JRb2 JRb3 JRbl JRbf0 JRbf1 JRbf2 JRbf3 lb
    obtain ⟨JXl, JX0, JX1, JX2, JX3⟩ := JX.k
    obtain ⟨JYl, JY0, JY1, JY2, JY3⟩ := JY.k
    obtain ⟨JRl, JR0, JR1, JR2, JR3, JRf0, JRf1, JRf2, JRf3⟩ := id JR
    obtain ⟨JRbl, JRb0, JRb1, JRb2, JRb3, JRbf0, JRbf1, JRbf2, JRbf3⟩ := id JRb
    have lb := B.size
    go_wp2_with fail
    refine (X3.out _).mono ?_
    rintro e w1 ⟨rfl, z⟩
    clear JX0 JX1 JX2 JX3 JXl JY0 JY1 JY2 JY3 JYl JR0 JR1 JR2 JR3 JRl JRf0 JRf1 JRf2 JRf3 JRb0 JRb1 JRb2 JRb3 JRbl JRbf0 JRbf1 JRbf2 JRbf3 lb
    replace JX := JX.below z
    replace JY := JY.below z
    replace JR := JR.below z
    replace JRb := JRb.below z
    replace B := below_next B z
    clear z
    obtain ⟨JXl, JX0, JX1, JX2, JX3⟩ := JX.k
    obtain ⟨JYl, JY0, JY1, JY2, JY3⟩ := JY.k
    obtain ⟨JRl, JR0, JR1, JR2, JR3, JRf0, JRf1, JRf2, JRf3⟩ := id JR
    obtain ⟨JRbl, JRb0, JRb1, JRb2, JRb3, JRbf0, JRbf1, JRbf2, JRbf3⟩ := id JRb
    have lb := B.size
    go_wp2_with fail
    refine (X4.out _).mono ?_
    rintro e w2 ⟨rfl, z⟩
    clear JX0 JX1 JX2 JX3 JXl JY0 JY1 JY2 JY3 JYl JR0 JR1 JR2 JR3 JRl JRf0 JRf1 JRf2 JRf3 JRb0 JRb1 JRb2 JRb3 JRbl JRbf0 JRbf1 JRbf2 JRbf3 lb
    have g2JX : w.heap.size < w1.heap.size := JX.lt
    have g2JY : w.heap.size + 1 < w1.heap.size := JY.lt
    have g2JR : w.heap.size + 1 + 1 < w1.heap.size := JR.lt
    have g2JRb : w.heap.size + 1 + 1 + 1 < w1.heap.size := JRb.lt
    have g2B := B.size
    replace JX := (JX.alloc _).below z
    replace JY := (JY.alloc _).below z
    replace JR := (JR.alloc _).below z
    replace JRb := (JRb.alloc _).below z
    have JM : SC w2 (w1.heap.size) (P) := (SC.new rfl).below z
    replace B := below_next (bel_alloc B) z
    clear z
    obtain ⟨JXl, JX0, JX1, JX2, JX3⟩ := JX.k
    obtain ⟨JYl, JY0, JY1, JY2, JY3⟩ := JY.k
    obtain ⟨JRl, JR0, JR1, JR2, JR3, JRf0, JRf1, JRf2, JRf3⟩ := id JR
    obtain ⟨JRbl, JRb0, JRb1, JRb2, JRb3, JRbf0, JRbf1, JRbf2, JRbf3⟩ := id JRb
    obtain ⟨JMl, JM0, JM1, JM2, JM3⟩ := JM.k
    have lb := B.size
    go_wp2_with fail
    clear JX0 JX1 JX2 JX3 JXl JY0 JY1 JY2 JY3 JYl JR0 JR1 JR2 JR3 JRl JRf0 JRf1 JRf2 JRf3 JRb0 JRb1 JRb2 JRb3 JRbl JRbf0 JRbf1 JRbf2 JRbf3 JM0 JM1 JM2 JM3 JMl lb
    have JN : SC (w2.alloc (.cells #[.int .u64 (ub Q.1.1), .int .u64 (ub Q.1.2), .int .u64 (ub Q.2.1), .int .u64 (ub Q.2.2)] 28)) (w2.heap.size) Q := (SC.new (x := Q) rfl)
    have gq2JX : w.heap.size < w2.heap.size := JX.lt
    replace JX := (JX.alloc (.cells #[.int .u64 (ub Q.1.1), .int .u64 (ub Q.1.2), .int .u64 (ub Q.2.1), .int .u64 (ub Q.2.2)] 28))
    have gq2JY : w.heap.size + 1 < w2.heap.size := JY.lt
    replace JY := (JY.alloc (.cells #[.int .u64 (ub Q.1.1), .int .u64 (ub Q.1.2), .int .u64 (ub Q.2.1), .int .u64 (ub Q.2.2)] 28))
    have gq2JR : w.heap.size + 1 + 1 < w2.heap.size := JR.lt
    replace JR := (JR.alloc (.cells #[.int .u64 (ub Q.1.1), .int .u64 (ub Q.1.2), .int .u64 (ub Q.2.1), .int .u64 (ub Q.2.2)] 28))
    have gq2JRb : w.heap.size + 1 + 1 + 1 < w2.heap.size := JRb.lt
    replace JRb := (JRb.alloc (.cells #[.int .u64 (ub Q.1.1), .int .u64 (ub Q.1.2), .int .u64 (ub Q.2.1), .int .u64 (ub Q.2.2)] 28))
    have gq2JM : w1.heap.size < w2.heap.size := JM.lt
    replace JM := (JM.alloc (.cells #[.int .u64 (ub Q.1.1), .int .u64 (ub Q.1.2), .int .u64 (ub Q.2.1), .int .u64 (ub Q.2.2)] 28))
    replace B := (bel_alloc (o := (.cells #[.int .u64 (ub Q.1.1), .int .u64 (ub Q.1.2), .int .u64 (ub Q.2.1), .int .u64 (ub Q.2.2)] 28)) B)
    generalize (w2.alloc (.cells #[.int .u64 (ub Q.1.1), .int .u64 (ub Q.1.2), .int .u64 (ub Q.2.1), .int .u64 (ub Q.2.2)] 28)) = w3 at *
    obtain ⟨JXl, JX0, JX1, JX2, JX3⟩ := JX.k
    obtain ⟨JYl, JY0, JY1, JY2, JY3⟩ := JY.k
    obtain ⟨JRl, JR0, JR1, JR2, JR3, JRf0, JRf1, JRf2, JRf3⟩ := id JR
    obtain ⟨JRbl, JRb0, JRb1, JRb2, JRb3, JRbf0, JRbf1, JRbf2, JRbf3⟩ := id JRb
    obtain ⟨JMl, JM0, JM1, JM2, JM3⟩ := JM.k
    obtain ⟨JNl, JN0, JN1, JN2, JN3⟩ := JN.k
    have lb := B.size
    go_wp2_with fail
    clear JX0 JX1 JX2 JX3 JXl JY0 JY1 JY2 JY3 JYl JR0 JR1 JR2 JR3 JRl JRf0 JRf1 JRf2 JRf3 JRb0 JRb1 JRb2 JRb3 JRbl JRbf0 JRbf1 JRbf2 JRbf3 JM0 JM1 JM2 JM3 JMl JN0 JN1 JN2 JN3 JNl lb
    obtain ⟨JXdl, JXd0, JXd1, JXd2, JXd3, JXdf0, JXdf1, JXdf2, JXdf3⟩ := id JX
    obtain ⟨JYdl, JYd0, JYd1, JYd2, JYd3, JYdf0, JYdf1, JYdf2, JYdf3⟩ := id JY
    obtain ⟨JRdl, JRd0, JRd1, JRd2, JRd3, JRdf0, JRdf1, JRdf2, JRdf3⟩ := id JR
    obtain ⟨JRbdl, JRbd0, JRbd1, JRbd2, JRbd3, JRbdf0, JRbdf1, JRbdf2, JRbdf3⟩ := id JRb
    obtain ⟨JMdl, JMd0, JMd1, JMd2, JMd3, JMdf0, JMdf1, JMdf2, JMdf3⟩ := id JM
    obtain ⟨JNdl, JNd0, JNd1, JNd2, JNd3, JNdf0, JNdf1, JNdf2, JNdf3⟩ := id JN
    have ld := B.size
    have hu : undef = Value.tuple #[] := rfl
    apply cutF (F := fun W' => SC W' (w.heap.size) ((v, m), l, h) ∧ SC W' (w.heap.size + 1) ((v', m'), l', h') ∧ SC W' (w.heap.size + 1 + 1) (P) ∧ SC W' (w.heap.size + 1 + 1 + 1) (Q) ∧ SC W' (w1.heap.size) P ∧ SC W' (w2.heap.size) Q ∧ Below w.heap.size w W')
    · first | (go_region_law (fail)) | fail
      all_goals exact ⟨⟨(((JX.other (c := w.heap.size + 1 + 1) (by omega) (P)).other (c := w.heap.size + 1 + 1 + 1) (by omega) (Q)).below (below_dr _)), (((JY.other (c := w.heap.size + 1 + 1) (by omega) (P)).other (c := w.heap.size + 1 + 1 + 1) (by omega) (Q)).below (below_dr _)), (((JR.put (P)).other (c := w.heap.size + 1 + 1 + 1) (by omega) (Q)).below (below_dr _)), (((JRb.other (c := w.heap.size + 1 + 1) (by omega) (P)).put (Q)).below (below_dr _)), (((JM.other (c := w.heap.size + 1 + 1) (by omega) (P)).other (c := w.heap.size + 1 + 1 + 1) (by omega) (Q)).below (below_dr _)), (((JN.other (c := w.heap.size + 1 + 1) (by omega) (P)).other (c := w.heap.size + 1 + 1 + 1) (by omega) (Q)).below (below_dr _)), below_next (putS_below (Q) (putS_below (P) B (by omega : w.heap.size ≤ w.heap.size + 1 + 1)) (by omega : w.heap.size ≤ w.heap.size + 1 + 1 + 1)) (below_dr _)⟩, rfl⟩
    clear JXd0 JXd1 JXd2 JXd3 JXdl JXdf0 JXdf1 JXdf2 JXdf3 JYd0 JYd1 JYd2 JYd3 JYdl JYdf0 JYdf1 JYdf2 JYdf3 JRd0 JRd1 JRd2 JRd3 JRdl JRdf0 JRdf1 JRdf2 JRdf3 JRbd0 JRbd1 JRbd2 JRbd3 JRbdl JRbdf0 JRbdf1 JRbdf2 JRbdf3 JMd0 JMd1 JMd2 JMd3 JMdl JMdf0 JMdf1 JMdf2 JMdf3 JNd0 JNd1 JNd2 JNd3 JNdl JNdf0 JNdf1 JNdf2 JNdf3 ld hu
    clear JX JY JR JRb JM JN B
    intro w4 ⟨JX, JY, JR, JRb, JM, JN, B⟩
    obtain ⟨JXl, JX0, JX1, JX2, JX3⟩ := JX.k
    obtain ⟨JYl, JY0, JY1, JY2, JY3⟩ := JY.k
    obtain ⟨JRl, JR0, JR1, JR2, JR3, JRf0, JRf1, JRf2, JRf3⟩ := id JR
    obtain ⟨JRbl, JRb0, JRb1, JRb2, JRb3, JRbf0, JRbf1, JRbf2, JRbf3⟩ := id JRb
    obtain ⟨JMl, JM0, JM1, JM2, JM3⟩ := JM.k
    obtain ⟨JNl, JN0, JN1, JN2, JN3⟩ := JN.k
    have lb := B.size
    go_wp2
    exact bodyPost_ret (v := .tuple #[sv P, sv Q, .bool false]) (by simp [results, Tryz.results62, go_sem, JX0, JX1, JX2, JX3, JXl, JY0, JY1, JY2, JY3, JYl, JR0, JR1, JR2, JR3, JRl, JRb0, JRb1, JRb2, JRb3, JRbl, JM0, JM1, JM2, JM3, JMl, JN0, JN1, JN2, JN3, JNl]; try first | rfl | exact ⟨rfl, rfl⟩) rfl ⟨rfl, B⟩
  · rw [Bool.true_and]
    go_enter Tryz.func62, Tryz.ntmps62
    go_wp2_with fail
    have JX : SC ((((w.alloc (.cells #[.int .u64 (ub v), .int .u64 (ub m), .int .u64 (ub l), .int .u64 (ub h)] 28)).alloc (.cells #[.int .u64 (ub v'), .int .u64 (ub m'), .int .u64 (ub l'), .int .u64 (ub h')] 28)).alloc (.cells #[.int .u64 0, .int .u64 0, .int .u64 0, .int .u64 0] 28)).alloc (.cells #[.int .u64 0, .int .u64 0, .int .u64 0, .int .u64 0] 28)) (w.heap.size) ((v, m), l, h) := ((((SC.new (x := ((v, m), l, h)) rfl).alloc _).alloc _).alloc _)
    have JY : SC ((((w.alloc (.cells #[.int .u64 (ub v), .int .u64 (ub m), .int .u64 (ub l), .int .u64 (ub h)] 28)).alloc (.cells #[.int .u64 (ub v'), .int .u64 (ub m'), .int .u64 (ub l'), .int .u64 (ub h')] 28)).alloc (.cells #[.int .u64 0, .int .u64 0, .int .u64 0, .int .u64 0] 28)).alloc (.cells #[.int .u64 0, .int .u64 0, .int .u64 0, .int .u64 0] 28)) (w.heap.size + 1) ((v', m'), l', h') := (((SC.new (x := ((v', m'), l', h')) (by simp)).alloc _).alloc _)
    have JR : SC ((((w.alloc (.cells #[.int .u64 (ub v), .int .u64 (ub m), .int .u64 (ub l), .int .u64 (ub h)] 28)).alloc (.cells #[.int .u64 (ub v'), .int .u64 (ub m'), .int .u64 (ub l'), .int .u64 (ub h')] 28)).alloc (.cells #[.int .u64 0, .int .u64 0, .int .u64 0, .int .u64 0] 28)).alloc (.cells #[.int .u64 0, .int .u64 0, .int .u64 0, .int .u64 0] 28)) (w.heap.size + 1 + 1) sc0 := ((SC.new (x := sc0) (by simp)).alloc _)
    have JRb : SC ((((w.alloc (.cells #[.int .u64 (ub v), .int .u64 (ub m), .int .u64 (ub l), .int .u64 (ub h)] 28)).alloc (.cells #[.int .u64 (ub v'), .int .u64 (ub m'), .int .u64 (ub l'), .int .u64 (ub h')] 28)).alloc (.cells #[.int .u64 0, .int .u64 0, .int .u64 0, .int .u64 0] 28)).alloc (.cells #[.int .u64 0, .int .u64 0, .int .u64 0, .int .u64 0] 28)) (w.heap.size + 1 + 1 + 1) sc0 := (SC.new (x := sc0) (by simp))
    have B : Below w.heap.size w ((((w.alloc (.cells #[.int .u64 (ub v), .int .u64 (ub m), .int .u64 (ub l), .int .u64 (ub h)] 28)).alloc (.cells #[.int .u64 (ub v'), .int .u64 (ub m'), .int .u64 (ub l'), .int .u64 (ub h')] 28)).alloc (.cells #[.int .u64 0, .int .u64 0, .int .u64 0, .int .u64 0] 28)).alloc (.cells #[.int .u64 0, .int .u64 0, .int .u64 0, .int .u64 0] 28)) := (bel_alloc (bel_alloc (bel_alloc (bel_alloc (Below.refl _ _)))))
    generalize ((((w.alloc (.cells #[.int .u64 (ub v), .int .u64 (ub m), .int .u64 (ub l), .int .u64 (ub h)] 28)).alloc (.cells #[.int .u64 (ub v'), .int .u64 (ub m'), .int .u64 (ub l'), .int .u64 (ub h')] 28)).alloc (.cells #[.int .u64 0, .int .u64 0, .int .u64 0, .int .u64 0] 28)).alloc (.cells #[.int .u64 0, .int .u64 0, .int .u64 0, .int .u64 0] 28)) = w00 at *
    obtain ⟨JXl, JX0, JX1, JX2, JX3⟩ := JX.k
    obtain ⟨JYl, JY0, JY1, JY2, JY3⟩ := JY.k
    obtain ⟨JRl, JR0, JR1, JR2, JR3, JRf0, JRf1, JRf2, JRf3⟩ := id JR
    obtain ⟨JRbl, JRb0, JRb1, JRb2, JRb3, JRbf0, JRbf1, JRbf2, JRbf3⟩ := id JRb
    have lb := B.size
    go_wp2_with fail
    refine (X1.out _).mono ?_
    rintro e w_ ⟨rfl, rfl⟩
    clear JX0 JX1 JX2 JX3 JXl JY0 JY1 JY2 JY3 JYl JR0 JR1 JR2 JR3 JRl JRf0 JRf1 JRf2 JRf3 JRb0 JRb1 JRb2 JRb3 JRbl JRbf0 JRbf1 JRbf2 JRbf3 lb
    obtain ⟨JXl, JX0, JX1, JX2, JX3⟩ := JX.k
    obtain ⟨JYl, JY0, JY1, JY2, JY3⟩ := JY.k
    obtain ⟨JRl, JR0, JR1, JR2, JR3, JRf0, JRf1, JRf2, JRf3⟩ := id JR
    obtain ⟨JRbl, JRb0, JRb1, JRb2, JRb3, JRbf0, JRbf1, JRbf2, JRbf3⟩ := id JRb
    have lb := B.size
    go_wp2_with fail
    refine (X3.out _).mono ?_
    rintro e w1 ⟨rfl, z⟩
    clear JX0 JX1 JX2 JX3 JXl JY0 JY1 JY2 JY3 JYl JR0 JR1 JR2 JR3 JRl JRf0 JRf1 JRf2 JRf3 JRb0 JRb1 JRb2 JRb3 JRbl JRbf0 JRbf1 JRbf2 JRbf3 lb
    replace JX := JX.below z
    replace JY := JY.below z
    replace JR := JR.below z
    replace JRb := JRb.below z
    replace B := below_next B z
    clear z
    obtain ⟨JXl, JX0, JX1, JX2, JX3⟩ := JX.k
    obtain ⟨JYl, JY0, JY1, JY2, JY3⟩ := JY.k
    obtain ⟨JRl, JR0, JR1, JR2, JR3, JRf0, JRf1, JRf2, JRf3⟩ := id JR
    obtain ⟨JRbl, JRb0, JRb1, JRb2, JRb3, JRbf0, JRbf1, JRbf2, JRbf3⟩ := id JRb
    have lb := B.size
    go_wp2_with fail
    refine (X4.out _).mono ?_
    rintro e w2 ⟨rfl, z⟩
    clear JX0 JX1 JX2 JX3 JXl JY0 JY1 JY2 JY3 JYl JR0 JR1 JR2 JR3 JRl JRf0 JRf1 JRf2 JRf3 JRb0 JRb1 JRb2 JRb3 JRbl JRbf0 JRbf1 JRbf2 JRbf3 lb
    have g2JX : w.heap.size < w1.heap.size := JX.lt
    have g2JY : w.heap.size + 1 < w1.heap.size := JY.lt
    have g2JR : w.heap.size + 1 + 1 < w1.heap.size := JR.lt
    have g2JRb : w.heap.size + 1 + 1 + 1 < w1.heap.size := JRb.lt
    have g2B := B.size
    replace JX := (JX.alloc _).below z
    replace JY := (JY.alloc _).below z
    replace JR := (JR.alloc _).below z
    replace JRb := (JRb.alloc _).below z
    have JM : SC w2 (w1.heap.size) (P) := (SC.new rfl).below z
    replace B := below_next (bel_alloc B) z
    clear z
    obtain ⟨JXl, JX0, JX1, JX2, JX3⟩ := JX.k
    obtain ⟨JYl, JY0, JY1, JY2, JY3⟩ := JY.k
    obtain ⟨JRl, JR0, JR1, JR2, JR3, JRf0, JRf1, JRf2, JRf3⟩ := id JR
    obtain ⟨JRbl, JRb0, JRb1, JRb2, JRb3, JRbf0, JRbf1, JRbf2, JRbf3⟩ := id JRb
    obtain ⟨JMl, JM0, JM1, JM2, JM3⟩ := JM.k
    have lb := B.size
    go_wp2_with fail
    clear JX0 JX1 JX2 JX3 JXl JY0 JY1 JY2 JY3 JYl JR0 JR1 JR2 JR3 JRl JRf0 JRf1 JRf2 JRf3 JRb0 JRb1 JRb2 JRb3 JRbl JRbf0 JRbf1 JRbf2 JRbf3 JM0 JM1 JM2 JM3 JMl lb
    have JN : SC (w2.alloc (.cells #[.int .u64 (ub Q.1.1), .int .u64 (ub Q.1.2), .int .u64 (ub Q.2.1), .int .u64 (ub Q.2.2)] 28)) (w2.heap.size) Q := (SC.new (x := Q) rfl)
    have gq2JX : w.heap.size < w2.heap.size := JX.lt
    replace JX := (JX.alloc (.cells #[.int .u64 (ub Q.1.1), .int .u64 (ub Q.1.2), .int .u64 (ub Q.2.1), .int .u64 (ub Q.2.2)] 28))
    have gq2JY : w.heap.size + 1 < w2.heap.size := JY.lt
    replace JY := (JY.alloc (.cells #[.int .u64 (ub Q.1.1), .int .u64 (ub Q.1.2), .int .u64 (ub Q.2.1), .int .u64 (ub Q.2.2)] 28))
    have gq2JR : w.heap.size + 1 + 1 < w2.heap.size := JR.lt
    replace JR := (JR.alloc (.cells #[.int .u64 (ub Q.1.1), .int .u64 (ub Q.1.2), .int .u64 (ub Q.2.1), .int .u64 (ub Q.2.2)] 28))
    have gq2JRb : w.heap.size + 1 + 1 + 1 < w2.heap.size := JRb.lt
    replace JRb := (JRb.alloc (.cells #[.int .u64 (ub Q.1.1), .int .u64 (ub Q.1.2), .int .u64 (ub Q.2.1), .int .u64 (ub Q.2.2)] 28))
    have gq2JM : w1.heap.size < w2.heap.size := JM.lt
    replace JM := (JM.alloc (.cells #[.int .u64 (ub Q.1.1), .int .u64 (ub Q.1.2), .int .u64 (ub Q.2.1), .int .u64 (ub Q.2.2)] 28))
    replace B := (bel_alloc (o := (.cells #[.int .u64 (ub Q.1.1), .int .u64 (ub Q.1.2), .int .u64 (ub Q.2.1), .int .u64 (ub Q.2.2)] 28)) B)
    generalize (w2.alloc (.cells #[.int .u64 (ub Q.1.1), .int .u64 (ub Q.1.2), .int .u64 (ub Q.2.1), .int .u64 (ub Q.2.2)] 28)) = w3 at *
    obtain ⟨JXl, JX0, JX1, JX2, JX3⟩ := JX.k
    obtain ⟨JYl, JY0, JY1, JY2, JY3⟩ := JY.k
    obtain ⟨JRl, JR0, JR1, JR2, JR3, JRf0, JRf1, JRf2, JRf3⟩ := id JR
    obtain ⟨JRbl, JRb0, JRb1, JRb2, JRb3, JRbf0, JRbf1, JRbf2, JRbf3⟩ := id JRb
    obtain ⟨JMl, JM0, JM1, JM2, JM3⟩ := JM.k
    obtain ⟨JNl, JN0, JN1, JN2, JN3⟩ := JN.k
    have lb := B.size
    go_wp2_with fail
    clear JX0 JX1 JX2 JX3 JXl JY0 JY1 JY2 JY3 JYl JR0 JR1 JR2 JR3 JRl JRf0 JRf1 JRf2 JRf3 JRb0 JRb1 JRb2 JRb3 JRbl JRbf0 JRbf1 JRbf2 JRbf3 JM0 JM1 JM2 JM3 JMl JN0 JN1 JN2 JN3 JNl lb
    obtain ⟨JXdl, JXd0, JXd1, JXd2, JXd3, JXdf0, JXdf1, JXdf2, JXdf3⟩ := id JX
    obtain ⟨JYdl, JYd0, JYd1, JYd2, JYd3, JYdf0, JYdf1, JYdf2, JYdf3⟩ := id JY
    obtain ⟨JRdl, JRd0, JRd1, JRd2, JRd3, JRdf0, JRdf1, JRdf2, JRdf3⟩ := id JR
    obtain ⟨JRbdl, JRbd0, JRbd1, JRbd2, JRbd3, JRbdf0, JRbdf1, JRbdf2, JRbdf3⟩ := id JRb
    obtain ⟨JMdl, JMd0, JMd1, JMd2, JMd3, JMdf0, JMdf1, JMdf2, JMdf3⟩ := id JM
    obtain ⟨JNdl, JNd0, JNd1, JNd2, JNd3, JNdf0, JNdf1, JNdf2, JNdf3⟩ := id JN
    have ld := B.size
    have hu : undef = Value.tuple #[] := rfl
    apply cutF (F := fun W' => SC W' (w.heap.size) ((v, m), l, h) ∧ SC W' (w.heap.size + 1) ((v', m'), l', h') ∧ SC W' (w.heap.size + 1 + 1) (P) ∧ SC W' (w.heap.size + 1 + 1 + 1) (Q) ∧ SC W' (w1.heap.size) P ∧ SC W' (w2.heap.size) Q ∧ Below w.heap.size w W')
    · first | (go_region_law (fail)) | fail
      all_goals exact ⟨⟨(((JX.other (c := w.heap.size + 1 + 1) (by omega) (P)).other (c := w.heap.size + 1 + 1 + 1) (by omega) (Q)).below (below_dr _)), (((JY.other (c := w.heap.size + 1 + 1) (by omega) (P)).other (c := w.heap.size + 1 + 1 + 1) (by omega) (Q)).below (below_dr _)), (((JR.put (P)).other (c := w.heap.size + 1 + 1 + 1) (by omega) (Q)).below (below_dr _)), (((JRb.other (c := w.heap.size + 1 + 1) (by omega) (P)).put (Q)).below (below_dr _)), (((JM.other (c := w.heap.size + 1 + 1) (by omega) (P)).other (c := w.heap.size + 1 + 1 + 1) (by omega) (Q)).below (below_dr _)), (((JN.other (c := w.heap.size + 1 + 1) (by omega) (P)).other (c := w.heap.size + 1 + 1 + 1) (by omega) (Q)).below (below_dr _)), below_next (putS_below (Q) (putS_below (P) B (by omega : w.heap.size ≤ w.heap.size + 1 + 1)) (by omega : w.heap.size ≤ w.heap.size + 1 + 1 + 1)) (below_dr _)⟩, rfl⟩
    clear JXd0 JXd1 JXd2 JXd3 JXdl JXdf0 JXdf1 JXdf2 JXdf3 JYd0 JYd1 JYd2 JYd3 JYdl JYdf0 JYdf1 JYdf2 JYdf3 JRd0 JRd1 JRd2 JRd3 JRdl JRdf0 JRdf1 JRdf2 JRdf3 JRbd0 JRbd1 JRbd2 JRbd3 JRbdl JRbdf0 JRbdf1 JRbdf2 JRbdf3 JMd0 JMd1 JMd2 JMd3 JMdl JMdf0 JMdf1 JMdf2 JMdf3 JNd0 JNd1 JNd2 JNd3 JNdl JNdf0 JNdf1 JNdf2 JNdf3 ld hu
    clear JX JY JR JRb JM JN B
    intro w4 ⟨JX, JY, JR, JRb, JM, JN, B⟩
    obtain ⟨JXl, JX0, JX1, JX2, JX3⟩ := JX.k
    obtain ⟨JYl, JY0, JY1, JY2, JY3⟩ := JY.k
    obtain ⟨JRl, JR0, JR1, JR2, JR3, JRf0, JRf1, JRf2, JRf3⟩ := id JR
    obtain ⟨JRbl, JRb0, JRb1, JRb2, JRb3, JRbf0, JRbf1, JRbf2, JRbf3⟩ := id JRb
    obtain ⟨JMl, JM0, JM1, JM2, JM3⟩ := JM.k
    obtain ⟨JNl, JN0, JN1, JN2, JN3⟩ := JN.k
    have lb := B.size
    go_wp2
    exact bodyPost_ret (v := .tuple #[sv P, sv Q, .bool K2]) (by simp [results, Tryz.results62, go_sem, JX0, JX1, JX2, JX3, JXl, JY0, JY1, JY2, JY3, JYl, JR0, JR1, JR2, JR3, JRl, JRb0, JRb1, JRb2, JRb3, JRbl, JM0, JM1, JM2, JM3, JMl, JN0, JN1, JN2, JN3, JNl]; try first | rfl | exact ⟨rfl, rfl⟩) rfl ⟨rfl, B⟩
set_option maxHeartbeats 8000000 in
theorem cTold_y_2 (op : Int) (a b : Sc) (hu : unsI op = 2) (w : World) : Calls Tryz.prog 62 #[.int .i64 op, sv a, sv b, .bool true] w fun e w' => e = .returned (tri (abvT a b 1#64)) ∧ Below w.heap.size w w' := by
  have X1 := fun W => cUns_any op W
  rw [hu] at X1
  have X3 : ∀ W, Calls Tryz.prog 96 #[sv a, sv b, .int .u64 1] W fun e w' => e = .returned (tri (abvT a b 1#64)) ∧ Below W.heap.size W w' := fun W => cAbove_any a b 1#64 W
  generalize abvT a b 1#64 = R at *
  clear hu
  obtain ⟨⟨v, m⟩, l, h⟩ := a
  obtain ⟨⟨v', m'⟩, l', h'⟩ := b
  unfold tri at X3
  unfold tri
  unfold sv at X3 ⊢
  dsimp only at X3 ⊢
  replace X1 := hid X1
  replace X3 := hid X3
  go_enter Tryz.func62, Tryz.ntmps62
  go_wp2_with fail
  have JX : SC ((((w.alloc (.cells #[.int .u64 (ub v), .int .u64 (ub m), .int .u64 (ub l), .int .u64 (ub h)] 28)).alloc (.cells #[.int .u64 (ub v'), .int .u64 (ub m'), .int .u64 (ub l'), .int .u64 (ub h')] 28)).alloc (.cells #[.int .u64 0, .int .u64 0, .int .u64 0, .int .u64 0] 28)).alloc (.cells #[.int .u64 0, .int .u64 0, .int .u64 0, .int .u64 0] 28)) (w.heap.size) ((v, m), l, h) := ((((SC.new (x := ((v, m), l, h)) rfl).alloc _).alloc _).alloc _)
  have JY : SC ((((w.alloc (.cells #[.int .u64 (ub v), .int .u64 (ub m), .int .u64 (ub l), .int .u64 (ub h)] 28)).alloc (.cells #[.int .u64 (ub v'), .int .u64 (ub m'), .int .u64 (ub l'), .int .u64 (ub h')] 28)).alloc (.cells #[.int .u64 0, .int .u64 0, .int .u64 0, .int .u64 0] 28)).alloc (.cells #[.int .u64 0, .int .u64 0, .int .u64 0, .int .u64 0] 28)) (w.heap.size + 1) ((v', m'), l', h') := (((SC.new (x := ((v', m'), l', h')) (by simp)).alloc _).alloc _)
  have JR : SC ((((w.alloc (.cells #[.int .u64 (ub v), .int .u64 (ub m), .int .u64 (ub l), .int .u64 (ub h)] 28)).alloc (.cells #[.int .u64 (ub v'), .int .u64 (ub m'), .int .u64 (ub l'), .int .u64 (ub h')] 28)).alloc (.cells #[.int .u64 0, .int .u64 0, .int .u64 0, .int .u64 0] 28)).alloc (.cells #[.int .u64 0, .int .u64 0, .int .u64 0, .int .u64 0] 28)) (w.heap.size + 1 + 1) sc0 := ((SC.new (x := sc0) (by simp)).alloc _)
  have JRb : SC ((((w.alloc (.cells #[.int .u64 (ub v), .int .u64 (ub m), .int .u64 (ub l), .int .u64 (ub h)] 28)).alloc (.cells #[.int .u64 (ub v'), .int .u64 (ub m'), .int .u64 (ub l'), .int .u64 (ub h')] 28)).alloc (.cells #[.int .u64 0, .int .u64 0, .int .u64 0, .int .u64 0] 28)).alloc (.cells #[.int .u64 0, .int .u64 0, .int .u64 0, .int .u64 0] 28)) (w.heap.size + 1 + 1 + 1) sc0 := (SC.new (x := sc0) (by simp))
  have B : Below w.heap.size w ((((w.alloc (.cells #[.int .u64 (ub v), .int .u64 (ub m), .int .u64 (ub l), .int .u64 (ub h)] 28)).alloc (.cells #[.int .u64 (ub v'), .int .u64 (ub m'), .int .u64 (ub l'), .int .u64 (ub h')] 28)).alloc (.cells #[.int .u64 0, .int .u64 0, .int .u64 0, .int .u64 0] 28)).alloc (.cells #[.int .u64 0, .int .u64 0, .int .u64 0, .int .u64 0] 28)) := (bel_alloc (bel_alloc (bel_alloc (bel_alloc (Below.refl _ _)))))
  generalize ((((w.alloc (.cells #[.int .u64 (ub v), .int .u64 (ub m), .int .u64 (ub l), .int .u64 (ub h)] 28)).alloc (.cells #[.int .u64 (ub v'), .int .u64 (ub m'), .int .u64 (ub l'), .int .u64 (ub h')] 28)).alloc (.cells #[.int .u64 0, .int .u64 0, .int .u64 0, .int .u64 0] 28)).alloc (.cells #[.int .u64 0, .int .u64 0, .int .u64 0, .int .u64 0] 28)) = w00 at *
  obtain ⟨JXl, JX0, JX1, JX2, JX3⟩ := JX.k
  obtain ⟨JYl, JY0, JY1, JY2, JY3⟩ := JY.k
  obtain ⟨JRl, JR0, JR1, JR2, JR3, JRf0, JRf1, JRf2, JRf3⟩ := id JR
  obtain ⟨JRbl, JRb0, JRb1, JRb2, JRb3, JRbf0, JRbf1, JRbf2, JRbf3⟩ := id JRb
  have lb := B.size
  go_wp2_with fail
  refine (X1.out _).mono ?_
  rintro e w_ ⟨rfl, rfl⟩
  clear JX0 JX1 JX2 JX3 JXl JY0 JY1 JY2 JY3 JYl JR0 JR1 JR2 JR3 JRl JRf0 JRf1 JRf2 JRf3 JRb0 JRb1 JRb2 JRb3 JRbl JRbf0 JRbf1 JRbf2 JRbf3 lb
  obtain ⟨JXl, JX0, JX1, JX2, JX3⟩ := JX.k
  obtain ⟨JYl, JY0, JY1, JY2, JY3⟩ := JY.k
  obtain ⟨JRl, JR0, JR1, JR2, JR3, JRf0, JRf1, JRf2, JRf3⟩ := id JR
  obtain ⟨JRbl, JRb0, JRb1, JRb2, JRb3, JRbf0, JRbf1, JRbf2, JRbf3⟩ := id JRb
  have lb := B.size
  go_wp2_with fail
  refine (X3.out _).mono ?_
  rintro e w1 ⟨rfl, z⟩
  clear JX0 JX1 JX2 JX3 JXl JY0 JY1 JY2 JY3 JYl JR0 JR1 JR2 JR3 JRl JRf0 JRf1 JRf2 JRf3 JRb0 JRb1 JRb2 JRb3 JRbl JRbf0 JRbf1 JRbf2 JRbf3 lb
  replace JX := JX.below z
  replace JY := JY.below z
  replace JR := JR.below z
  replace JRb := JRb.below z
  replace B := below_next B z
  clear z
  obtain ⟨JXl, JX0, JX1, JX2, JX3⟩ := JX.k
  obtain ⟨JYl, JY0, JY1, JY2, JY3⟩ := JY.k
  obtain ⟨JRl, JR0, JR1, JR2, JR3, JRf0, JRf1, JRf2, JRf3⟩ := id JR
  obtain ⟨JRbl, JRb0, JRb1, JRb2, JRb3, JRbf0, JRbf1, JRbf2, JRbf3⟩ := id JRb
  have lb := B.size
  go_wp2
  exact bodyPost_ret (v := .tuple #[sv R.1, sv R.2.1, .bool R.2.2]) (by simp [results, Tryz.results62, go_sem, JX0, JX1, JX2, JX3, JXl, JY0, JY1, JY2, JY3, JYl, JR0, JR1, JR2, JR3, JRl, JRb0, JRb1, JRb2, JRb3, JRbl]; try first | rfl | exact ⟨rfl, rfl⟩) rfl ⟨rfl, putS_below R.2.1 (putS_below R.1 B (by omega)) (by omega)⟩
set_option maxHeartbeats 8000000 in
theorem cTold_y_3 (op : Int) (a b : Sc) (hu : unsI op = 3) (w : World) : Calls Tryz.prog 62 #[.int .i64 op, sv a, sv b, .bool true] w fun e w' => e = .returned (tri (abvT a b 0#64)) ∧ Below w.heap.size w w' := by
  have X1 := fun W => cUns_any op W
  rw [hu] at X1
  have X3 : ∀ W, Calls Tryz.prog 96 #[sv a, sv b, .int .u64 0] W fun e w' => e = .returned (tri (abvT a b 0#64)) ∧ Below W.heap.size W w' := fun W => cAbove_any a b 0#64 W
  generalize abvT a b 0#64 = R at *
  clear hu
  obtain ⟨⟨v, m⟩, l, h⟩ := a
  obtain ⟨⟨v', m'⟩, l', h'⟩ := b
  unfold tri at X3
  unfold tri
  unfold sv at X3 ⊢
  dsimp only at X3 ⊢
  replace X1 := hid X1
  replace X3 := hid X3
  go_enter Tryz.func62, Tryz.ntmps62
  go_wp2_with fail
  have JX : SC ((((w.alloc (.cells #[.int .u64 (ub v), .int .u64 (ub m), .int .u64 (ub l), .int .u64 (ub h)] 28)).alloc (.cells #[.int .u64 (ub v'), .int .u64 (ub m'), .int .u64 (ub l'), .int .u64 (ub h')] 28)).alloc (.cells #[.int .u64 0, .int .u64 0, .int .u64 0, .int .u64 0] 28)).alloc (.cells #[.int .u64 0, .int .u64 0, .int .u64 0, .int .u64 0] 28)) (w.heap.size) ((v, m), l, h) := ((((SC.new (x := ((v, m), l, h)) rfl).alloc _).alloc _).alloc _)
  have JY : SC ((((w.alloc (.cells #[.int .u64 (ub v), .int .u64 (ub m), .int .u64 (ub l), .int .u64 (ub h)] 28)).alloc (.cells #[.int .u64 (ub v'), .int .u64 (ub m'), .int .u64 (ub l'), .int .u64 (ub h')] 28)).alloc (.cells #[.int .u64 0, .int .u64 0, .int .u64 0, .int .u64 0] 28)).alloc (.cells #[.int .u64 0, .int .u64 0, .int .u64 0, .int .u64 0] 28)) (w.heap.size + 1) ((v', m'), l', h') := (((SC.new (x := ((v', m'), l', h')) (by simp)).alloc _).alloc _)
  have JR : SC ((((w.alloc (.cells #[.int .u64 (ub v), .int .u64 (ub m), .int .u64 (ub l), .int .u64 (ub h)] 28)).alloc (.cells #[.int .u64 (ub v'), .int .u64 (ub m'), .int .u64 (ub l'), .int .u64 (ub h')] 28)).alloc (.cells #[.int .u64 0, .int .u64 0, .int .u64 0, .int .u64 0] 28)).alloc (.cells #[.int .u64 0, .int .u64 0, .int .u64 0, .int .u64 0] 28)) (w.heap.size + 1 + 1) sc0 := ((SC.new (x := sc0) (by simp)).alloc _)
  have JRb : SC ((((w.alloc (.cells #[.int .u64 (ub v), .int .u64 (ub m), .int .u64 (ub l), .int .u64 (ub h)] 28)).alloc (.cells #[.int .u64 (ub v'), .int .u64 (ub m'), .int .u64 (ub l'), .int .u64 (ub h')] 28)).alloc (.cells #[.int .u64 0, .int .u64 0, .int .u64 0, .int .u64 0] 28)).alloc (.cells #[.int .u64 0, .int .u64 0, .int .u64 0, .int .u64 0] 28)) (w.heap.size + 1 + 1 + 1) sc0 := (SC.new (x := sc0) (by simp))
  have B : Below w.heap.size w ((((w.alloc (.cells #[.int .u64 (ub v), .int .u64 (ub m), .int .u64 (ub l), .int .u64 (ub h)] 28)).alloc (.cells #[.int .u64 (ub v'), .int .u64 (ub m'), .int .u64 (ub l'), .int .u64 (ub h')] 28)).alloc (.cells #[.int .u64 0, .int .u64 0, .int .u64 0, .int .u64 0] 28)).alloc (.cells #[.int .u64 0, .int .u64 0, .int .u64 0, .int .u64 0] 28)) := (bel_alloc (bel_alloc (bel_alloc (bel_alloc (Below.refl _ _)))))
  generalize ((((w.alloc (.cells #[.int .u64 (ub v), .int .u64 (ub m), .int .u64 (ub l), .int .u64 (ub h)] 28)).alloc (.cells #[.int .u64 (ub v'), .int .u64 (ub m'), .int .u64 (ub l'), .int .u64 (ub h')] 28)).alloc (.cells #[.int .u64 0, .int .u64 0, .int .u64 0, .int .u64 0] 28)).alloc (.cells #[.int .u64 0, .int .u64 0, .int .u64 0, .int .u64 0] 28)) = w00 at *
  obtain ⟨JXl, JX0, JX1, JX2, JX3⟩ := JX.k
  obtain ⟨JYl, JY0, JY1, JY2, JY3⟩ := JY.k
  obtain ⟨JRl, JR0, JR1, JR2, JR3, JRf0, JRf1, JRf2, JRf3⟩ := id JR
  obtain ⟨JRbl, JRb0, JRb1, JRb2, JRb3, JRbf0, JRbf1, JRbf2, JRbf3⟩ := id JRb
  have lb := B.size
  go_wp2_with fail
  refine (X1.out _).mono ?_
  rintro e w_ ⟨rfl, rfl⟩
  clear JX0 JX1 JX2 JX3 JXl JY0 JY1 JY2 JY3 JYl JR0 JR1 JR2 JR3 JRl JRf0 JRf1 JRf2 JRf3 JRb0 JRb1 JRb2 JRb3 JRbl JRbf0 JRbf1 JRbf2 JRbf3 lb
  obtain ⟨JXl, JX0, JX1, JX2, JX3⟩ := JX.k
  obtain ⟨JYl, JY0, JY1, JY2, JY3⟩ := JY.k
  obtain ⟨JRl, JR0, JR1, JR2, JR3, JRf0, JRf1, JRf2, JRf3⟩ := id JR
  obtain ⟨JRbl, JRb0, JRb1, JRb2, JRb3, JRbf0, JRbf1, JRbf2, JRbf3⟩ := id JRb
  have lb := B.size
  go_wp2_with fail
  refine (X3.out _).mono ?_
  rintro e w1 ⟨rfl, z⟩
  clear JX0 JX1 JX2 JX3 JXl JY0 JY1 JY2 JY3 JYl JR0 JR1 JR2 JR3 JRl JRf0 JRf1 JRf2 JRf3 JRb0 JRb1 JRb2 JRb3 JRbl JRbf0 JRbf1 JRbf2 JRbf3 lb
  replace JX := JX.below z
  replace JY := JY.below z
  replace JR := JR.below z
  replace JRb := JRb.below z
  replace B := below_next B z
  clear z
  obtain ⟨JXl, JX0, JX1, JX2, JX3⟩ := JX.k
  obtain ⟨JYl, JY0, JY1, JY2, JY3⟩ := JY.k
  obtain ⟨JRl, JR0, JR1, JR2, JR3, JRf0, JRf1, JRf2, JRf3⟩ := id JR
  obtain ⟨JRbl, JRb0, JRb1, JRb2, JRb3, JRbf0, JRbf1, JRbf2, JRbf3⟩ := id JRb
  have lb := B.size
  go_wp2
  exact bodyPost_ret (v := .tuple #[sv R.1, sv R.2.1, .bool R.2.2]) (by simp [results, Tryz.results62, go_sem, JX0, JX1, JX2, JX3, JXl, JY0, JY1, JY2, JY3, JYl, JR0, JR1, JR2, JR3, JRl, JRb0, JRb1, JRb2, JRb3, JRbl]; try first | rfl | exact ⟨rfl, rfl⟩) rfl ⟨rfl, putS_below R.2.1 (putS_below R.1 B (by omega)) (by omega)⟩
set_option maxHeartbeats 8000000 in
theorem cTold_y_10 (op : Int) (a b : Sc) (hu : unsI op = 10) (w : World) : Calls Tryz.prog 62 #[.int .i64 op, sv a, sv b, .bool true] w fun e w' => e = .returned (tri (swp (abvT b a 1#64))) ∧ Below w.heap.size w w' := by
  have X1 := fun W => cUns_any op W
  rw [hu] at X1
  have X3 : ∀ W, Calls Tryz.prog 96 #[sv b, sv a, .int .u64 1] W fun e w' => e = .returned (tri (abvT b a 1#64)) ∧ Below W.heap.size W w' := fun W => cAbove_any b a 1#64 W
  generalize abvT b a 1#64 = R at *
  clear hu
  obtain ⟨⟨v, m⟩, l, h⟩ := a
  obtain ⟨⟨v', m'⟩, l', h'⟩ := b
  unfold tri at X3
  unfold tri swp
  unfold sv at X3 ⊢
  dsimp only at X3 ⊢
  replace X1 := hid X1
  replace X3 := hid X3
  go_enter Tryz.func62, Tryz.ntmps62
  go_wp2_with fail
  have JX : SC ((((w.alloc (.cells #[.int .u64 (ub v), .int .u64 (ub m), .int .u64 (ub l), .int .u64 (ub h)] 28)).alloc (.cells #[.int .u64 (ub v'), .int .u64 (ub m'), .int .u64 (ub l'), .int .u64 (ub h')] 28)).alloc (.cells #[.int .u64 0, .int .u64 0, .int .u64 0, .int .u64 0] 28)).alloc (.cells #[.int .u64 0, .int .u64 0, .int .u64 0, .int .u64 0] 28)) (w.heap.size) ((v, m), l, h) := ((((SC.new (x := ((v, m), l, h)) rfl).alloc _).alloc _).alloc _)
  have JY : SC ((((w.alloc (.cells #[.int .u64 (ub v), .int .u64 (ub m), .int .u64 (ub l), .int .u64 (ub h)] 28)).alloc (.cells #[.int .u64 (ub v'), .int .u64 (ub m'), .int .u64 (ub l'), .int .u64 (ub h')] 28)).alloc (.cells #[.int .u64 0, .int .u64 0, .int .u64 0, .int .u64 0] 28)).alloc (.cells #[.int .u64 0, .int .u64 0, .int .u64 0, .int .u64 0] 28)) (w.heap.size + 1) ((v', m'), l', h') := (((SC.new (x := ((v', m'), l', h')) (by simp)).alloc _).alloc _)
  have JR : SC ((((w.alloc (.cells #[.int .u64 (ub v), .int .u64 (ub m), .int .u64 (ub l), .int .u64 (ub h)] 28)).alloc (.cells #[.int .u64 (ub v'), .int .u64 (ub m'), .int .u64 (ub l'), .int .u64 (ub h')] 28)).alloc (.cells #[.int .u64 0, .int .u64 0, .int .u64 0, .int .u64 0] 28)).alloc (.cells #[.int .u64 0, .int .u64 0, .int .u64 0, .int .u64 0] 28)) (w.heap.size + 1 + 1) sc0 := ((SC.new (x := sc0) (by simp)).alloc _)
  have JRb : SC ((((w.alloc (.cells #[.int .u64 (ub v), .int .u64 (ub m), .int .u64 (ub l), .int .u64 (ub h)] 28)).alloc (.cells #[.int .u64 (ub v'), .int .u64 (ub m'), .int .u64 (ub l'), .int .u64 (ub h')] 28)).alloc (.cells #[.int .u64 0, .int .u64 0, .int .u64 0, .int .u64 0] 28)).alloc (.cells #[.int .u64 0, .int .u64 0, .int .u64 0, .int .u64 0] 28)) (w.heap.size + 1 + 1 + 1) sc0 := (SC.new (x := sc0) (by simp))
  have B : Below w.heap.size w ((((w.alloc (.cells #[.int .u64 (ub v), .int .u64 (ub m), .int .u64 (ub l), .int .u64 (ub h)] 28)).alloc (.cells #[.int .u64 (ub v'), .int .u64 (ub m'), .int .u64 (ub l'), .int .u64 (ub h')] 28)).alloc (.cells #[.int .u64 0, .int .u64 0, .int .u64 0, .int .u64 0] 28)).alloc (.cells #[.int .u64 0, .int .u64 0, .int .u64 0, .int .u64 0] 28)) := (bel_alloc (bel_alloc (bel_alloc (bel_alloc (Below.refl _ _)))))
  generalize ((((w.alloc (.cells #[.int .u64 (ub v), .int .u64 (ub m), .int .u64 (ub l), .int .u64 (ub h)] 28)).alloc (.cells #[.int .u64 (ub v'), .int .u64 (ub m'), .int .u64 (ub l'), .int .u64 (ub h')] 28)).alloc (.cells #[.int .u64 0, .int .u64 0, .int .u64 0, .int .u64 0] 28)).alloc (.cells #[.int .u64 0, .int .u64 0, .int .u64 0, .int .u64 0] 28)) = w00 at *
  obtain ⟨JXl, JX0, JX1, JX2, JX3⟩ := JX.k
  obtain ⟨JYl, JY0, JY1, JY2, JY3⟩ := JY.k
  obtain ⟨JRl, JR0, JR1, JR2, JR3, JRf0, JRf1, JRf2, JRf3⟩ := id JR
  obtain ⟨JRbl, JRb0, JRb1, JRb2, JRb3, JRbf0, JRbf1, JRbf2, JRbf3⟩ := id JRb
  have lb := B.size
  go_wp2_with fail
  refine (X1.out _).mono ?_
  rintro e w_ ⟨rfl, rfl⟩
  clear JX0 JX1 JX2 JX3 JXl JY0 JY1 JY2 JY3 JYl JR0 JR1 JR2 JR3 JRl JRf0 JRf1 JRf2 JRf3 JRb0 JRb1 JRb2 JRb3 JRbl JRbf0 JRbf1 JRbf2 JRbf3 lb
  obtain ⟨JXl, JX0, JX1, JX2, JX3⟩ := JX.k
  obtain ⟨JYl, JY0, JY1, JY2, JY3⟩ := JY.k
  obtain ⟨JRl, JR0, JR1, JR2, JR3, JRf0, JRf1, JRf2, JRf3⟩ := id JR
  obtain ⟨JRbl, JRb0, JRb1, JRb2, JRb3, JRbf0, JRbf1, JRbf2, JRbf3⟩ := id JRb
  have lb := B.size
  go_wp2_with fail
  refine (X3.out _).mono ?_
  rintro e w1 ⟨rfl, z⟩
  clear JX0 JX1 JX2 JX3 JXl JY0 JY1 JY2 JY3 JYl JR0 JR1 JR2 JR3 JRl JRf0 JRf1 JRf2 JRf3 JRb0 JRb1 JRb2 JRb3 JRbl JRbf0 JRbf1 JRbf2 JRbf3 lb
  replace JX := JX.below z
  replace JY := JY.below z
  replace JR := JR.below z
  replace JRb := JRb.below z
  replace B := below_next B z
  clear z
  obtain ⟨JXl, JX0, JX1, JX2, JX3⟩ := JX.k
  obtain ⟨JYl, JY0, JY1, JY2, JY3⟩ := JY.k
  obtain ⟨JRl, JR0, JR1, JR2, JR3, JRf0, JRf1, JRf2, JRf3⟩ := id JR
  obtain ⟨JRbl, JRb0, JRb1, JRb2, JRb3, JRbf0, JRbf1, JRbf2, JRbf3⟩ := id JRb
  have lb := B.size
  go_wp2_with fail
  clear JX0 JX1 JX2 JX3 JXl JY0 JY1 JY2 JY3 JYl JR0 JR1 JR2 JR3 JRl JRf0 JRf1 JRf2 JRf3 JRb0 JRb1 JRb2 JRb3 JRbl JRbf0 JRbf1 JRbf2 JRbf3 lb
  have JM : SC ((w1.alloc (.cells #[.int .u64 (ub R.1.1.1), .int .u64 (ub R.1.1.2), .int .u64 (ub R.1.2.1), .int .u64 (ub R.1.2.2)] 28)).alloc (.cells #[.int .u64 (ub R.2.1.1.1), .int .u64 (ub R.2.1.1.2), .int .u64 (ub R.2.1.2.1), .int .u64 (ub R.2.1.2.2)] 28)) (w1.heap.size) R.1 := ((SC.new (x := R.1) rfl).alloc _)
  have JN : SC ((w1.alloc (.cells #[.int .u64 (ub R.1.1.1), .int .u64 (ub R.1.1.2), .int .u64 (ub R.1.2.1), .int .u64 (ub R.1.2.2)] 28)).alloc (.cells #[.int .u64 (ub R.2.1.1.1), .int .u64 (ub R.2.1.1.2), .int .u64 (ub R.2.1.2.1), .int .u64 (ub R.2.1.2.2)] 28)) (w1.heap.size + 1) R.2.1 := (SC.new (x := R.2.1) (by simp))
  have gq1JX : w.heap.size < w1.heap.size := JX.lt
  replace JX := ((JX.alloc (.cells #[.int .u64 (ub R.1.1.1), .int .u64 (ub R.1.1.2), .int .u64 (ub R.1.2.1), .int .u64 (ub R.1.2.2)] 28)).alloc (.cells #[.int .u64 (ub R.2.1.1.1), .int .u64 (ub R.2.1.1.2), .int .u64 (ub R.2.1.2.1), .int .u64 (ub R.2.1.2.2)] 28))
  have gq1JY : w.heap.size + 1 < w1.heap.size := JY.lt
  replace JY := ((JY.alloc (.cells #[.int .u64 (ub R.1.1.1), .int .u64 (ub R.1.1.2), .int .u64 (ub R.1.2.1), .int .u64 (ub R.1.2.2)] 28)).alloc (.cells #[.int .u64 (ub R.2.1.1.1), .int .u64 (ub R.2.1.1.2), .int .u64 (ub R.2.1.2.1), .int .u64 (ub R.2.1.2.2)] 28))
  have gq1JR : w.heap.size + 1 + 1 < w1.heap.size := JR.lt
  replace JR := ((JR.alloc (.cells #[.int .u64 (ub R.1.1.1), .int .u64 (ub R.1.1.2), .int .u64 (ub R.1.2.1), .int .u64 (ub R.1.2.2)] 28)).alloc (.cells #[.int .u64 (ub R.2.1.1.1), .int .u64 (ub R.2.1.1.2), .int .u64 (ub R.2.1.2.1), .int .u64 (ub R.2.1.2.2)] 28))
  have gq1JRb : w.heap.size + 1 + 1 + 1 < w1.heap.size := JRb.lt
  replace JRb := ((JRb.alloc (.cells #[.int .u64 (ub R.1.1.1), .int .u64 (ub R.1.1.2), .int .u64 (ub R.1.2.1), .int .u64 (ub R.1.2.2)] 28)).alloc (.cells #[.int .u64 (ub R.2.1.1.1), .int .u64 (ub R.2.1.1.2), .int .u64 (ub R.2.1.2.1), .int .u64 (ub R.2.1.2.2)] 28))
  replace B := (bel_alloc (o := (.cells #[.int .u64 (ub R.2.1.1.1), .int .u64 (ub R.2.1.1.2), .int .u64 (ub R.2.1.2.1), .int .u64 (ub R.2.1.2.2)] 28)) (bel_alloc (o := (.cells #[.int .u64 (ub R.1.1.1), .int .u64 (ub R.1.1.2), .int .u64 (ub R.1.2.1), .int .u64 (ub R.1.2.2)] 28)) B))
  generalize ((w1.alloc (.cells #[.int .u64 (ub R.1.1.1), .int .u64 (ub R.1.1.2), .int .u64 (ub R.1.2.1), .int .u64 (ub R.1.2.2)] 28)).alloc (.cells #[.int .u64 (ub R.2.1.1.1), .int .u64 (ub R.2.1.1.2), .int .u64 (ub R.2.1.2.1), .int .u64 (ub R.2.1.2.2)] 28)) = w2 at *
  obtain ⟨JXl, JX0, JX1, JX2, JX3⟩ := JX.k
  obtain ⟨JYl, JY0, JY1, JY2, JY3⟩ := JY.k
  obtain ⟨JRl, JR0, JR1, JR2, JR3, JRf0, JRf1, JRf2, JRf3⟩ := id JR
  obtain ⟨JRbl, JRb0, JRb1, JRb2, JRb3, JRbf0, JRbf1, JRbf2, JRbf3⟩ := id JRb
  obtain ⟨JMl, JM0, JM1, JM2, JM3⟩ := JM.k
  obtain ⟨JNl, JN0, JN1, JN2, JN3⟩ := JN.k
  have lb := B.size
  go_wp2_with fail
  clear JX0 JX1 JX2 JX3 JXl JY0 JY1 JY2 JY3 JYl JR0 JR1 JR2 JR3 JRl JRf0 JRf1 JRf2 JRf3 JRb0 JRb1 JRb2 JRb3 JRbl JRbf0 JRbf1 JRbf2 JRbf3 JM0 JM1 JM2 JM3 JMl JN0 JN1 JN2 JN3 JNl lb
  obtain ⟨JXdl, JXd0, JXd1, JXd2, JXd3, JXdf0, JXdf1, JXdf2, JXdf3⟩ := id JX
  obtain ⟨JYdl, JYd0, JYd1, JYd2, JYd3, JYdf0, JYdf1, JYdf2, JYdf3⟩ := id JY
  obtain ⟨JRdl, JRd0, JRd1, JRd2, JRd3, JRdf0, JRdf1, JRdf2, JRdf3⟩ := id JR
  obtain ⟨JRbdl, JRbd0, JRbd1, JRbd2, JRbd3, JRbdf0, JRbdf1, JRbdf2, JRbdf3⟩ := id JRb
  obtain ⟨JMdl, JMd0, JMd1, JMd2, JMd3, JMdf0, JMdf1, JMdf2, JMdf3⟩ := id JM
  obtain ⟨JNdl, JNd0, JNd1, JNd2, JNd3, JNdf0, JNdf1, JNdf2, JNdf3⟩ := id JN
  have ld := B.size
  apply cutF (F := fun W' => SC W' (w.heap.size) ((v, m), l, h) ∧ SC W' (w.heap.size + 1) ((v', m'), l', h') ∧ SC W' (w.heap.size + 1 + 1) (R.2.1) ∧ SC W' (w.heap.size + 1 + 1 + 1) (R.1) ∧ SC W' (w1.heap.size) R.1 ∧ SC W' (w1.heap.size + 1) R.2.1 ∧ Below w.heap.size w W')
  · go_region
    all_goals exact ⟨⟨(((JX.other (c := w.heap.size + 1 + 1) (by omega) (R.2.1)).other (c := w.heap.size + 1 + 1 + 1) (by omega) (R.1)).below (below_dr _)), (((JY.other (c := w.heap.size + 1 + 1) (by omega) (R.2.1)).other (c := w.heap.size + 1 + 1 + 1) (by omega) (R.1)).below (below_dr _)), (((JR.put (R.2.1)).other (c := w.heap.size + 1 + 1 + 1) (by omega) (R.1)).below (below_dr _)), (((JRb.other (c := w.heap.size + 1 + 1) (by omega) (R.2.1)).put (R.1)).below (below_dr _)), (((JM.other (c := w.heap.size + 1 + 1) (by omega) (R.2.1)).other (c := w.heap.size + 1 + 1 + 1) (by omega) (R.1)).below (below_dr _)), (((JN.other (c := w.heap.size + 1 + 1) (by omega) (R.2.1)).other (c := w.heap.size + 1 + 1 + 1) (by omega) (R.1)).below (below_dr _)), below_next (putS_below (R.1) (putS_below (R.2.1) B (by omega : w.heap.size ≤ w.heap.size + 1 + 1)) (by omega : w.heap.size ≤ w.heap.size + 1 + 1 + 1)) (below_dr _)⟩, rfl⟩
  clear JXd0 JXd1 JXd2 JXd3 JXdl JXdf0 JXdf1 JXdf2 JXdf3 JYd0 JYd1 JYd2 JYd3 JYdl JYdf0 JYdf1 JYdf2 JYdf3 JRd0 JRd1 JRd2 JRd3 JRdl JRdf0 JRdf1 JRdf2 JRdf3 JRbd0 JRbd1 JRbd2 JRbd3 JRbdl JRbdf0 JRbdf1 JRbdf2 JRbdf3 JMd0 JMd1 JMd2 JMd3 JMdl JMdf0 JMdf1 JMdf2 JMdf3 JNd0 JNd1 JNd2 JNd3 JNdl JNdf0 JNdf1 JNdf2 JNdf3 ld
  clear JX JY JR JRb JM JN B
  intro w3 ⟨JX, JY, JR, JRb, JM, JN, B⟩
  obtain ⟨JXl, JX0, JX1, JX2, JX3⟩ := JX.k
  obtain ⟨JYl, JY0, JY1, JY2, JY3⟩ := JY.k
  obtain ⟨JRl, JR0, JR1, JR2, JR3, JRf0, JRf1, JRf2, JRf3⟩ := id JR
  obtain ⟨JRbl, JRb0, JRb1, JRb2, JRb3, JRbf0, JRbf1, JRbf2, JRbf3⟩ := id JRb
  obtain ⟨JMl, JM0, JM1, JM2, JM3⟩ := JM.k
  obtain ⟨JNl, JN0, JN1, JN2, JN3⟩ := JN.k
  have lb := B.size
  go_wp2
  exact bodyPost_ret (v := .tuple #[sv R.2.1, sv R.1, .bool R.2.2]) (by simp [results, Tryz.results62, go_sem, JX0, JX1, JX2, JX3, JXl, JY0, JY1, JY2, JY3, JYl, JR0, JR1, JR2, JR3, JRl, JRb0, JRb1, JRb2, JRb3, JRbl, JM0, JM1, JM2, JM3, JMl, JN0, JN1, JN2, JN3, JNl]; try first | rfl | exact ⟨rfl, rfl⟩) rfl ⟨rfl, B⟩
set_option maxHeartbeats 8000000 in
theorem cTold_y_r (op q : Int) (a b : Sc) (hu : unsI op = q) (h4 : (q == 4) = false) (e1 : (q == 1) = false) (e5 : (q == 5) = false) (e2 : (q == 2) = false) (e3 : (q == 3) = false) (e10 : (q == 10) = false) (w : World) : Calls Tryz.prog 62 #[.int .i64 op, sv a, sv b, .bool true] w fun e w' => e = .returned (tri (swp (abvT b a 0#64))) ∧ Below w.heap.size w w' := by
  have X1 := fun W => cUns_any op W
  rw [hu] at X1
  have X3 : ∀ W, Calls Tryz.prog 96 #[sv b, sv a, .int .u64 0] W fun e w' => e = .returned (tri (abvT b a 0#64)) ∧ Below W.heap.size W w' := fun W => cAbove_any b a 0#64 W
  generalize abvT b a 0#64 = R at *
  clear hu
  obtain ⟨⟨v, m⟩, l, h⟩ := a
  obtain ⟨⟨v', m'⟩, l', h'⟩ := b
  unfold tri at X3
  unfold tri swp
  unfold sv at X3 ⊢
  dsimp only at X3 ⊢
  replace X1 := hid X1
  replace X3 := hid X3
  go_enter Tryz.func62, Tryz.ntmps62
  go_wp2_with fail
  have JX : SC ((((w.alloc (.cells #[.int .u64 (ub v), .int .u64 (ub m), .int .u64 (ub l), .int .u64 (ub h)] 28)).alloc (.cells #[.int .u64 (ub v'), .int .u64 (ub m'), .int .u64 (ub l'), .int .u64 (ub h')] 28)).alloc (.cells #[.int .u64 0, .int .u64 0, .int .u64 0, .int .u64 0] 28)).alloc (.cells #[.int .u64 0, .int .u64 0, .int .u64 0, .int .u64 0] 28)) (w.heap.size) ((v, m), l, h) := ((((SC.new (x := ((v, m), l, h)) rfl).alloc _).alloc _).alloc _)
  have JY : SC ((((w.alloc (.cells #[.int .u64 (ub v), .int .u64 (ub m), .int .u64 (ub l), .int .u64 (ub h)] 28)).alloc (.cells #[.int .u64 (ub v'), .int .u64 (ub m'), .int .u64 (ub l'), .int .u64 (ub h')] 28)).alloc (.cells #[.int .u64 0, .int .u64 0, .int .u64 0, .int .u64 0] 28)).alloc (.cells #[.int .u64 0, .int .u64 0, .int .u64 0, .int .u64 0] 28)) (w.heap.size + 1) ((v', m'), l', h') := (((SC.new (x := ((v', m'), l', h')) (by simp)).alloc _).alloc _)
  have JR : SC ((((w.alloc (.cells #[.int .u64 (ub v), .int .u64 (ub m), .int .u64 (ub l), .int .u64 (ub h)] 28)).alloc (.cells #[.int .u64 (ub v'), .int .u64 (ub m'), .int .u64 (ub l'), .int .u64 (ub h')] 28)).alloc (.cells #[.int .u64 0, .int .u64 0, .int .u64 0, .int .u64 0] 28)).alloc (.cells #[.int .u64 0, .int .u64 0, .int .u64 0, .int .u64 0] 28)) (w.heap.size + 1 + 1) sc0 := ((SC.new (x := sc0) (by simp)).alloc _)
  have JRb : SC ((((w.alloc (.cells #[.int .u64 (ub v), .int .u64 (ub m), .int .u64 (ub l), .int .u64 (ub h)] 28)).alloc (.cells #[.int .u64 (ub v'), .int .u64 (ub m'), .int .u64 (ub l'), .int .u64 (ub h')] 28)).alloc (.cells #[.int .u64 0, .int .u64 0, .int .u64 0, .int .u64 0] 28)).alloc (.cells #[.int .u64 0, .int .u64 0, .int .u64 0, .int .u64 0] 28)) (w.heap.size + 1 + 1 + 1) sc0 := (SC.new (x := sc0) (by simp))
  have B : Below w.heap.size w ((((w.alloc (.cells #[.int .u64 (ub v), .int .u64 (ub m), .int .u64 (ub l), .int .u64 (ub h)] 28)).alloc (.cells #[.int .u64 (ub v'), .int .u64 (ub m'), .int .u64 (ub l'), .int .u64 (ub h')] 28)).alloc (.cells #[.int .u64 0, .int .u64 0, .int .u64 0, .int .u64 0] 28)).alloc (.cells #[.int .u64 0, .int .u64 0, .int .u64 0, .int .u64 0] 28)) := (bel_alloc (bel_alloc (bel_alloc (bel_alloc (Below.refl _ _)))))
  generalize ((((w.alloc (.cells #[.int .u64 (ub v), .int .u64 (ub m), .int .u64 (ub l), .int .u64 (ub h)] 28)).alloc (.cells #[.int .u64 (ub v'), .int .u64 (ub m'), .int .u64 (ub l'), .int .u64 (ub h')] 28)).alloc (.cells #[.int .u64 0, .int .u64 0, .int .u64 0, .int .u64 0] 28)).alloc (.cells #[.int .u64 0, .int .u64 0, .int .u64 0, .int .u64 0] 28)) = w00 at *
  obtain ⟨JXl, JX0, JX1, JX2, JX3⟩ := JX.k
  obtain ⟨JYl, JY0, JY1, JY2, JY3⟩ := JY.k
  obtain ⟨JRl, JR0, JR1, JR2, JR3, JRf0, JRf1, JRf2, JRf3⟩ := id JR
  obtain ⟨JRbl, JRb0, JRb1, JRb2, JRb3, JRbf0, JRbf1, JRbf2, JRbf3⟩ := id JRb
  have lb := B.size
  go_wp2_with fail
  refine (X1.out _).mono ?_
  rintro e w_ ⟨rfl, rfl⟩
  clear JX0 JX1 JX2 JX3 JXl JY0 JY1 JY2 JY3 JYl JR0 JR1 JR2 JR3 JRl JRf0 JRf1 JRf2 JRf3 JRb0 JRb1 JRb2 JRb3 JRbl JRbf0 JRbf1 JRbf2 JRbf3 lb
  obtain ⟨JXl, JX0, JX1, JX2, JX3⟩ := JX.k
  obtain ⟨JYl, JY0, JY1, JY2, JY3⟩ := JY.k
  obtain ⟨JRl, JR0, JR1, JR2, JR3, JRf0, JRf1, JRf2, JRf3⟩ := id JR
  obtain ⟨JRbl, JRb0, JRb1, JRb2, JRb3, JRbf0, JRbf1, JRbf2, JRbf3⟩ := id JRb
  have lb := B.size
  go_wp2_with fail
  refine (X3.out _).mono ?_
  rintro e w1 ⟨rfl, z⟩
  clear JX0 JX1 JX2 JX3 JXl JY0 JY1 JY2 JY3 JYl JR0 JR1 JR2 JR3 JRl JRf0 JRf1 JRf2 JRf3 JRb0 JRb1 JRb2 JRb3 JRbl JRbf0 JRbf1 JRbf2 JRbf3 lb
  replace JX := JX.below z
  replace JY := JY.below z
  replace JR := JR.below z
  replace JRb := JRb.below z
  replace B := below_next B z
  clear z
  obtain ⟨JXl, JX0, JX1, JX2, JX3⟩ := JX.k
  obtain ⟨JYl, JY0, JY1, JY2, JY3⟩ := JY.k
  obtain ⟨JRl, JR0, JR1, JR2, JR3, JRf0, JRf1, JRf2, JRf3⟩ := id JR
  obtain ⟨JRbl, JRb0, JRb1, JRb2, JRb3, JRbf0, JRbf1, JRbf2, JRbf3⟩ := id JRb
  have lb := B.size
  go_wp2_with fail
  clear JX0 JX1 JX2 JX3 JXl JY0 JY1 JY2 JY3 JYl JR0 JR1 JR2 JR3 JRl JRf0 JRf1 JRf2 JRf3 JRb0 JRb1 JRb2 JRb3 JRbl JRbf0 JRbf1 JRbf2 JRbf3 lb
  have JM : SC ((w1.alloc (.cells #[.int .u64 (ub R.1.1.1), .int .u64 (ub R.1.1.2), .int .u64 (ub R.1.2.1), .int .u64 (ub R.1.2.2)] 28)).alloc (.cells #[.int .u64 (ub R.2.1.1.1), .int .u64 (ub R.2.1.1.2), .int .u64 (ub R.2.1.2.1), .int .u64 (ub R.2.1.2.2)] 28)) (w1.heap.size) R.1 := ((SC.new (x := R.1) rfl).alloc _)
  have JN : SC ((w1.alloc (.cells #[.int .u64 (ub R.1.1.1), .int .u64 (ub R.1.1.2), .int .u64 (ub R.1.2.1), .int .u64 (ub R.1.2.2)] 28)).alloc (.cells #[.int .u64 (ub R.2.1.1.1), .int .u64 (ub R.2.1.1.2), .int .u64 (ub R.2.1.2.1), .int .u64 (ub R.2.1.2.2)] 28)) (w1.heap.size + 1) R.2.1 := (SC.new (x := R.2.1) (by simp))
  have gq1JX : w.heap.size < w1.heap.size := JX.lt
  replace JX := ((JX.alloc (.cells #[.int .u64 (ub R.1.1.1), .int .u64 (ub R.1.1.2), .int .u64 (ub R.1.2.1), .int .u64 (ub R.1.2.2)] 28)).alloc (.cells #[.int .u64 (ub R.2.1.1.1), .int .u64 (ub R.2.1.1.2), .int .u64 (ub R.2.1.2.1), .int .u64 (ub R.2.1.2.2)] 28))
  have gq1JY : w.heap.size + 1 < w1.heap.size := JY.lt
  replace JY := ((JY.alloc (.cells #[.int .u64 (ub R.1.1.1), .int .u64 (ub R.1.1.2), .int .u64 (ub R.1.2.1), .int .u64 (ub R.1.2.2)] 28)).alloc (.cells #[.int .u64 (ub R.2.1.1.1), .int .u64 (ub R.2.1.1.2), .int .u64 (ub R.2.1.2.1), .int .u64 (ub R.2.1.2.2)] 28))
  have gq1JR : w.heap.size + 1 + 1 < w1.heap.size := JR.lt
  replace JR := ((JR.alloc (.cells #[.int .u64 (ub R.1.1.1), .int .u64 (ub R.1.1.2), .int .u64 (ub R.1.2.1), .int .u64 (ub R.1.2.2)] 28)).alloc (.cells #[.int .u64 (ub R.2.1.1.1), .int .u64 (ub R.2.1.1.2), .int .u64 (ub R.2.1.2.1), .int .u64 (ub R.2.1.2.2)] 28))
  have gq1JRb : w.heap.size + 1 + 1 + 1 < w1.heap.size := JRb.lt
  replace JRb := ((JRb.alloc (.cells #[.int .u64 (ub R.1.1.1), .int .u64 (ub R.1.1.2), .int .u64 (ub R.1.2.1), .int .u64 (ub R.1.2.2)] 28)).alloc (.cells #[.int .u64 (ub R.2.1.1.1), .int .u64 (ub R.2.1.1.2), .int .u64 (ub R.2.1.2.1), .int .u64 (ub R.2.1.2.2)] 28))
  replace B := (bel_alloc (o := (.cells #[.int .u64 (ub R.2.1.1.1), .int .u64 (ub R.2.1.1.2), .int .u64 (ub R.2.1.2.1), .int .u64 (ub R.2.1.2.2)] 28)) (bel_alloc (o := (.cells #[.int .u64 (ub R.1.1.1), .int .u64 (ub R.1.1.2), .int .u64 (ub R.1.2.1), .int .u64 (ub R.1.2.2)] 28)) B))
  generalize ((w1.alloc (.cells #[.int .u64 (ub R.1.1.1), .int .u64 (ub R.1.1.2), .int .u64 (ub R.1.2.1), .int .u64 (ub R.1.2.2)] 28)).alloc (.cells #[.int .u64 (ub R.2.1.1.1), .int .u64 (ub R.2.1.1.2), .int .u64 (ub R.2.1.2.1), .int .u64 (ub R.2.1.2.2)] 28)) = w2 at *
  obtain ⟨JXl, JX0, JX1, JX2, JX3⟩ := JX.k
  obtain ⟨JYl, JY0, JY1, JY2, JY3⟩ := JY.k
  obtain ⟨JRl, JR0, JR1, JR2, JR3, JRf0, JRf1, JRf2, JRf3⟩ := id JR
  obtain ⟨JRbl, JRb0, JRb1, JRb2, JRb3, JRbf0, JRbf1, JRbf2, JRbf3⟩ := id JRb
  obtain ⟨JMl, JM0, JM1, JM2, JM3⟩ := JM.k
  obtain ⟨JNl, JN0, JN1, JN2, JN3⟩ := JN.k
  have lb := B.size
  go_wp2_with fail
  clear JX0 JX1 JX2 JX3 JXl JY0 JY1 JY2 JY3 JYl JR0 JR1 JR2 JR3 JRl JRf0 JRf1 JRf2 JRf3 JRb0 JRb1 JRb2 JRb3 JRbl JRbf0 JRbf1 JRbf2 JRbf3 JM0 JM1 JM2 JM3 JMl JN0 JN1 JN2 JN3 JNl lb
  obtain ⟨JXdl, JXd0, JXd1, JXd2, JXd3, JXdf0, JXdf1, JXdf2, JXdf3⟩ := id JX
  obtain ⟨JYdl, JYd0, JYd1, JYd2, JYd3, JYdf0, JYdf1, JYdf2, JYdf3⟩ := id JY
  obtain ⟨JRdl, JRd0, JRd1, JRd2, JRd3, JRdf0, JRdf1, JRdf2, JRdf3⟩ := id JR
  obtain ⟨JRbdl, JRbd0, JRbd1, JRbd2, JRbd3, JRbdf0, JRbdf1, JRbdf2, JRbdf3⟩ := id JRb
  obtain ⟨JMdl, JMd0, JMd1, JMd2, JMd3, JMdf0, JMdf1, JMdf2, JMdf3⟩ := id JM
  obtain ⟨JNdl, JNd0, JNd1, JNd2, JNd3, JNdf0, JNdf1, JNdf2, JNdf3⟩ := id JN
  have ld := B.size
  apply cutF (F := fun W' => SC W' (w.heap.size) ((v, m), l, h) ∧ SC W' (w.heap.size + 1) ((v', m'), l', h') ∧ SC W' (w.heap.size + 1 + 1) (R.2.1) ∧ SC W' (w.heap.size + 1 + 1 + 1) (R.1) ∧ SC W' (w1.heap.size) R.1 ∧ SC W' (w1.heap.size + 1) R.2.1 ∧ Below w.heap.size w W')
  · go_region
    all_goals exact ⟨⟨(((JX.other (c := w.heap.size + 1 + 1) (by omega) (R.2.1)).other (c := w.heap.size + 1 + 1 + 1) (by omega) (R.1)).below (below_dr _)), (((JY.other (c := w.heap.size + 1 + 1) (by omega) (R.2.1)).other (c := w.heap.size + 1 + 1 + 1) (by omega) (R.1)).below (below_dr _)), (((JR.put (R.2.1)).other (c := w.heap.size + 1 + 1 + 1) (by omega) (R.1)).below (below_dr _)), (((JRb.other (c := w.heap.size + 1 + 1) (by omega) (R.2.1)).put (R.1)).below (below_dr _)), (((JM.other (c := w.heap.size + 1 + 1) (by omega) (R.2.1)).other (c := w.heap.size + 1 + 1 + 1) (by omega) (R.1)).below (below_dr _)), (((JN.other (c := w.heap.size + 1 + 1) (by omega) (R.2.1)).other (c := w.heap.size + 1 + 1 + 1) (by omega) (R.1)).below (below_dr _)), below_next (putS_below (R.1) (putS_below (R.2.1) B (by omega : w.heap.size ≤ w.heap.size + 1 + 1)) (by omega : w.heap.size ≤ w.heap.size + 1 + 1 + 1)) (below_dr _)⟩, rfl⟩
  clear JXd0 JXd1 JXd2 JXd3 JXdl JXdf0 JXdf1 JXdf2 JXdf3 JYd0 JYd1 JYd2 JYd3 JYdl JYdf0 JYdf1 JYdf2 JYdf3 JRd0 JRd1 JRd2 JRd3 JRdl JRdf0 JRdf1 JRdf2 JRdf3 JRbd0 JRbd1 JRbd2 JRbd3 JRbdl JRbdf0 JRbdf1 JRbdf2 JRbdf3 JMd0 JMd1 JMd2 JMd3 JMdl JMdf0 JMdf1 JMdf2 JMdf3 JNd0 JNd1 JNd2 JNd3 JNdl JNdf0 JNdf1 JNdf2 JNdf3 ld
  clear JX JY JR JRb JM JN B
  intro w3 ⟨JX, JY, JR, JRb, JM, JN, B⟩
  obtain ⟨JXl, JX0, JX1, JX2, JX3⟩ := JX.k
  obtain ⟨JYl, JY0, JY1, JY2, JY3⟩ := JY.k
  obtain ⟨JRl, JR0, JR1, JR2, JR3, JRf0, JRf1, JRf2, JRf3⟩ := id JR
  obtain ⟨JRbl, JRb0, JRb1, JRb2, JRb3, JRbf0, JRbf1, JRbf2, JRbf3⟩ := id JRb
  obtain ⟨JMl, JM0, JM1, JM2, JM3⟩ := JM.k
  obtain ⟨JNl, JN0, JN1, JN2, JN3⟩ := JN.k
  have lb := B.size
  go_wp2
  exact bodyPost_ret (v := .tuple #[sv R.2.1, sv R.1, .bool R.2.2]) (by simp [results, Tryz.results62, go_sem, JX0, JX1, JX2, JX3, JXl, JY0, JY1, JY2, JY3, JYl, JR0, JR1, JR2, JR3, JRl, JRb0, JRb1, JRb2, JRb3, JRbl, JM0, JM1, JM2, JM3, JMl, JN0, JN1, JN2, JN3, JNl]; try first | rfl | exact ⟨rfl, rfl⟩) rfl ⟨rfl, B⟩
set_option maxHeartbeats 8000000 in
theorem cTold_n_1 (op u : Int) (a b : Sc) (hu : unsI op = u) (h4 : (u == 4) = false) (hq : oppI u = 1) (w : World) : Calls Tryz.prog 62 #[.int .i64 op, sv a, sv b, .bool false] w fun e w' => e = .returned (tri ((optS (meetO a b), optS (meetO a b), (meetO a b).isSome))) ∧ Below w.heap.size w w' := by
  have X1 := fun W => cUns_any op W
  rw [hu] at X1
  have X2 := fun W => cOpp_any u W
  rw [hq] at X2
  replace X2 := hid X2
  have X3 := fun W => cMeet_any a b W
  generalize (meetO a b).isSome = K at *
  generalize optS (meetO a b) = P at *
  clear hu hq
  obtain ⟨⟨v, m⟩, l, h⟩ := a
  obtain ⟨⟨v', m'⟩, l', h'⟩ := b
  unfold tri
  unfold sv at X3 ⊢
  dsimp only at X3 ⊢
  replace X1 := hid X1
  replace X3 := hid X3
  go_enter Tryz.func62, Tryz.ntmps62
  go_wp2_with fail
  have JX : SC ((((w.alloc (.cells #[.int .u64 (ub v), .int .u64 (ub m), .int .u64 (ub l), .int .u64 (ub h)] 28)).alloc (.cells #[.int .u64 (ub v'), .int .u64 (ub m'), .int .u64 (ub l'), .int .u64 (ub h')] 28)).alloc (.cells #[.int .u64 0, .int .u64 0, .int .u64 0, .int .u64 0] 28)).alloc (.cells #[.int .u64 0, .int .u64 0, .int .u64 0, .int .u64 0] 28)) (w.heap.size) ((v, m), l, h) := ((((SC.new (x := ((v, m), l, h)) rfl).alloc _).alloc _).alloc _)
  have JY : SC ((((w.alloc (.cells #[.int .u64 (ub v), .int .u64 (ub m), .int .u64 (ub l), .int .u64 (ub h)] 28)).alloc (.cells #[.int .u64 (ub v'), .int .u64 (ub m'), .int .u64 (ub l'), .int .u64 (ub h')] 28)).alloc (.cells #[.int .u64 0, .int .u64 0, .int .u64 0, .int .u64 0] 28)).alloc (.cells #[.int .u64 0, .int .u64 0, .int .u64 0, .int .u64 0] 28)) (w.heap.size + 1) ((v', m'), l', h') := (((SC.new (x := ((v', m'), l', h')) (by simp)).alloc _).alloc _)
  have JR : SC ((((w.alloc (.cells #[.int .u64 (ub v), .int .u64 (ub m), .int .u64 (ub l), .int .u64 (ub h)] 28)).alloc (.cells #[.int .u64 (ub v'), .int .u64 (ub m'), .int .u64 (ub l'), .int .u64 (ub h')] 28)).alloc (.cells #[.int .u64 0, .int .u64 0, .int .u64 0, .int .u64 0] 28)).alloc (.cells #[.int .u64 0, .int .u64 0, .int .u64 0, .int .u64 0] 28)) (w.heap.size + 1 + 1) sc0 := ((SC.new (x := sc0) (by simp)).alloc _)
  have JRb : SC ((((w.alloc (.cells #[.int .u64 (ub v), .int .u64 (ub m), .int .u64 (ub l), .int .u64 (ub h)] 28)).alloc (.cells #[.int .u64 (ub v'), .int .u64 (ub m'), .int .u64 (ub l'), .int .u64 (ub h')] 28)).alloc (.cells #[.int .u64 0, .int .u64 0, .int .u64 0, .int .u64 0] 28)).alloc (.cells #[.int .u64 0, .int .u64 0, .int .u64 0, .int .u64 0] 28)) (w.heap.size + 1 + 1 + 1) sc0 := (SC.new (x := sc0) (by simp))
  have B : Below w.heap.size w ((((w.alloc (.cells #[.int .u64 (ub v), .int .u64 (ub m), .int .u64 (ub l), .int .u64 (ub h)] 28)).alloc (.cells #[.int .u64 (ub v'), .int .u64 (ub m'), .int .u64 (ub l'), .int .u64 (ub h')] 28)).alloc (.cells #[.int .u64 0, .int .u64 0, .int .u64 0, .int .u64 0] 28)).alloc (.cells #[.int .u64 0, .int .u64 0, .int .u64 0, .int .u64 0] 28)) := (bel_alloc (bel_alloc (bel_alloc (bel_alloc (Below.refl _ _)))))
  generalize ((((w.alloc (.cells #[.int .u64 (ub v), .int .u64 (ub m), .int .u64 (ub l), .int .u64 (ub h)] 28)).alloc (.cells #[.int .u64 (ub v'), .int .u64 (ub m'), .int .u64 (ub l'), .int .u64 (ub h')] 28)).alloc (.cells #[.int .u64 0, .int .u64 0, .int .u64 0, .int .u64 0] 28)).alloc (.cells #[.int .u64 0, .int .u64 0, .int .u64 0, .int .u64 0] 28)) = w00 at *
  obtain ⟨JXl, JX0, JX1, JX2, JX3⟩ := JX.k
  obtain ⟨JYl, JY0, JY1, JY2, JY3⟩ := JY.k
  obtain ⟨JRl, JR0, JR1, JR2, JR3, JRf0, JRf1, JRf2, JRf3⟩ := id JR
  obtain ⟨JRbl, JRb0, JRb1, JRb2, JRb3, JRbf0, JRbf1, JRbf2, JRbf3⟩ := id JRb
  have lb := B.size
  go_wp2_with fail
  refine (X1.out _).mono ?_
  rintro e w_ ⟨rfl, rfl⟩
  clear JX0 JX1 JX2 JX3 JXl JY0 JY1 JY2 JY3 JYl JR0 JR1 JR2 JR3 JRl JRf0 JRf1 JRf2 JRf3 JRb0 JRb1 JRb2 JRb3 JRbl JRbf0 JRbf1 JRbf2 JRbf3 lb
  obtain ⟨JXl, JX0, JX1, JX2, JX3⟩ := JX.k
  obtain ⟨JYl, JY0, JY1, JY2, JY3⟩ := JY.k
  obtain ⟨JRl, JR0, JR1, JR2, JR3, JRf0, JRf1, JRf2, JRf3⟩ := id JR
  obtain ⟨JRbl, JRb0, JRb1, JRb2, JRb3, JRbf0, JRbf1, JRbf2, JRbf3⟩ := id JRb
  have lb := B.size
  go_wp2_with fail
  refine (X2.out _).mono ?_
  rintro e w_ ⟨rfl, rfl⟩
  clear JX0 JX1 JX2 JX3 JXl JY0 JY1 JY2 JY3 JYl JR0 JR1 JR2 JR3 JRl JRf0 JRf1 JRf2 JRf3 JRb0 JRb1 JRb2 JRb3 JRbl JRbf0 JRbf1 JRbf2 JRbf3 lb
  obtain ⟨JXl, JX0, JX1, JX2, JX3⟩ := JX.k
  obtain ⟨JYl, JY0, JY1, JY2, JY3⟩ := JY.k
  obtain ⟨JRl, JR0, JR1, JR2, JR3, JRf0, JRf1, JRf2, JRf3⟩ := id JR
  obtain ⟨JRbl, JRb0, JRb1, JRb2, JRb3, JRbf0, JRbf1, JRbf2, JRbf3⟩ := id JRb
  have lb := B.size
  go_wp2_with fail
  refine (X3.out _).mono ?_
  rintro e w1 ⟨rfl, z⟩
  clear JX0 JX1 JX2 JX3 JXl JY0 JY1 JY2 JY3 JYl JR0 JR1 JR2 JR3 JRl JRf0 JRf1 JRf2 JRf3 JRb0 JRb1 JRb2 JRb3 JRbl JRbf0 JRbf1 JRbf2 JRbf3 lb
  replace JX := JX.below z
  replace JY := JY.below z
  replace JR := JR.below z
  replace JRb := JRb.below z
  replace B := below_next B z
  clear z
  obtain ⟨JXl, JX0, JX1, JX2, JX3⟩ := JX.k
  obtain ⟨JYl, JY0, JY1, JY2, JY3⟩ := JY.k
  obtain ⟨JRl, JR0, JR1, JR2, JR3, JRf0, JRf1, JRf2, JRf3⟩ := id JR
  obtain ⟨JRbl, JRb0, JRb1, JRb2, JRb3, JRbf0, JRbf1, JRbf2, JRbf3⟩ := id JRb
  have lb := B.size
  go_wp2_with fail
  clear JX0 JX1 JX2 JX3 JXl JY0 JY1 JY2 JY3 JYl JR0 JR1 JR2 JR3 JRl JRf0 JRf1 JRf2 JRf3 JRb0 JRb1 JRb2 JRb3 JRbl JRbf0 JRbf1 JRbf2 JRbf3 lb
  have JM : SC (w1.alloc (.cells #[.int .u64 (ub P.1.1), .int .u64 (ub P.1.2), .int .u64 (ub P.2.1), .int .u64 (ub P.2.2)] 28)) (w1.heap.size) P := (SC.new (x := P) rfl)
  have gq1JX : w.heap.size < w1.heap.size := JX.lt
  replace JX := (JX.alloc (.cells #[.int .u64 (ub P.1.1), .int .u64 (ub P.1.2), .int .u64 (ub P.2.1), .int .u64 (ub P.2.2)] 28))
  have gq1JY : w.heap.size + 1 < w1.heap.size := JY.lt
  replace JY := (JY.alloc (.cells #[.int .u64 (ub P.1.1), .int .u64 (ub P.1.2), .int .u64 (ub P.2.1), .int .u64 (ub P.2.2)] 28))
  have gq1JR : w.heap.size + 1 + 1 < w1.heap.size := JR.lt
  replace JR := (JR.alloc (.cells #[.int .u64 (ub P.1.1), .int .u64 (ub P.1.2), .int .u64 (ub P.2.1), .int .u64 (ub P.2.2)] 28))
  have gq1JRb : w.heap.size + 1 + 1 + 1 < w1.heap.size := JRb.lt
  replace JRb := (JRb.alloc (.cells #[.int .u64 (ub P.1.1), .int .u64 (ub P.1.2), .int .u64 (ub P.2.1), .int .u64 (ub P.2.2)] 28))
  replace B := (bel_alloc (o := (.cells #[.int .u64 (ub P.1.1), .int .u64 (ub P.1.2), .int .u64 (ub P.2.1), .int .u64 (ub P.2.2)] 28)) B)
  generalize (w1.alloc (.cells #[.int .u64 (ub P.1.1), .int .u64 (ub P.1.2), .int .u64 (ub P.2.1), .int .u64 (ub P.2.2)] 28)) = w2 at *
  obtain ⟨JXl, JX0, JX1, JX2, JX3⟩ := JX.k
  obtain ⟨JYl, JY0, JY1, JY2, JY3⟩ := JY.k
  obtain ⟨JRl, JR0, JR1, JR2, JR3, JRf0, JRf1, JRf2, JRf3⟩ := id JR
  obtain ⟨JRbl, JRb0, JRb1, JRb2, JRb3, JRbf0, JRbf1, JRbf2, JRbf3⟩ := id JRb
  obtain ⟨JMl, JM0, JM1, JM2, JM3⟩ := JM.k
  have lb := B.size
  go_wp2_with fail
  clear JX0 JX1 JX2 JX3 JXl JY0 JY1 JY2 JY3 JYl JR0 JR1 JR2 JR3 JRl JRf0 JRf1 JRf2 JRf3 JRb0 JRb1 JRb2 JRb3 JRbl JRbf0 JRbf1 JRbf2 JRbf3 JM0 JM1 JM2 JM3 JMl lb
  obtain ⟨JXdl, JXd0, JXd1, JXd2, JXd3, JXdf0, JXdf1, JXdf2, JXdf3⟩ := id JX
  obtain ⟨JYdl, JYd0, JYd1, JYd2, JYd3, JYdf0, JYdf1, JYdf2, JYdf3⟩ := id JY
  obtain ⟨JRdl, JRd0, JRd1, JRd2, JRd3, JRdf0, JRdf1, JRdf2, JRdf3⟩ := id JR
  obtain ⟨JRbdl, JRbd0, JRbd1, JRbd2, JRbd3, JRbdf0, JRbdf1, JRbdf2, JRbdf3⟩ := id JRb
  obtain ⟨JMdl, JMd0, JMd1, JMd2, JMd3, JMdf0, JMdf1, JMdf2, JMdf3⟩ := id JM
  have ld := B.size
  apply cutF (F := fun W' => SC W' (w.heap.size) ((v, m), l, h) ∧ SC W' (w.heap.size + 1) ((v', m'), l', h') ∧ SC W' (w.heap.size + 1 + 1) (P) ∧ SC W' (w.heap.size + 1 + 1 + 1) (P) ∧ SC W' (w1.heap.size) P ∧ Below w.heap.size w W')
  · go_region
    all_goals exact ⟨⟨(((JX.other (c := w.heap.size + 1 + 1) (by omega) (P)).other (c := w.heap.size + 1 + 1 + 1) (by omega) (P)).below (below_dr _)), (((JY.other (c := w.heap.size + 1 + 1) (by omega) (P)).other (c := w.heap.size + 1 + 1 + 1) (by omega) (P)).below (below_dr _)), (((JR.put (P)).other (c := w.heap.size + 1 + 1 + 1) (by omega) (P)).below (below_dr _)), (((JRb.other (c := w.heap.size + 1 + 1) (by omega) (P)).put (P)).below (below_dr _)), (((JM.other (c := w.heap.size + 1 + 1) (by omega) (P)).other (c := w.heap.size + 1 + 1 + 1) (by omega) (P)).below (below_dr _)), below_next (putS_below (P) (putS_below (P) B (by omega : w.heap.size ≤ w.heap.size + 1 + 1)) (by omega : w.heap.size ≤ w.heap.size + 1 + 1 + 1)) (below_dr _)⟩, rfl⟩
  clear JXd0 JXd1 JXd2 JXd3 JXdl JXdf0 JXdf1 JXdf2 JXdf3 JYd0 JYd1 JYd2 JYd3 JYdl JYdf0 JYdf1 JYdf2 JYdf3 JRd0 JRd1 JRd2 JRd3 JRdl JRdf0 JRdf1 JRdf2 JRdf3 JRbd0 JRbd1 JRbd2 JRbd3 JRbdl JRbdf0 JRbdf1 JRbdf2 JRbdf3 JMd0 JMd1 JMd2 JMd3 JMdl JMdf0 JMdf1 JMdf2 JMdf3 ld
  clear JX JY JR JRb JM B
  intro w3 ⟨JX, JY, JR, JRb, JM, B⟩
  obtain ⟨JXl, JX0, JX1, JX2, JX3⟩ := JX.k
  obtain ⟨JYl, JY0, JY1, JY2, JY3⟩ := JY.k
  obtain ⟨JRl, JR0, JR1, JR2, JR3, JRf0, JRf1, JRf2, JRf3⟩ := id JR
  obtain ⟨JRbl, JRb0, JRb1, JRb2, JRb3, JRbf0, JRbf1, JRbf2, JRbf3⟩ := id JRb
  obtain ⟨JMl, JM0, JM1, JM2, JM3⟩ := JM.k
  have lb := B.size
  go_wp2
  exact bodyPost_ret (v := .tuple #[sv P, sv P, .bool K]) (by simp [results, Tryz.results62, go_sem, JX0, JX1, JX2, JX3, JXl, JY0, JY1, JY2, JY3, JYl, JR0, JR1, JR2, JR3, JRl, JRb0, JRb1, JRb2, JRb3, JRbl, JM0, JM1, JM2, JM3, JMl]; try first | rfl | exact ⟨rfl, rfl⟩) rfl ⟨rfl, B⟩
set_option maxHeartbeats 8000000 in
theorem cTold_n_5 (op u : Int) (a b : Sc) (hu : unsI op = u) (h4 : (u == 4) = false) (hq : oppI u = 5) (w : World) : Calls Tryz.prog 62 #[.int .i64 op, sv a, sv b, .bool false] w fun e w' => e = .returned (tri ((optS (wthO a b), optS (wthO b a), (wthO a b).isSome && (wthO b a).isSome))) ∧ Below w.heap.size w w' := by
  have X1 := fun W => cUns_any op W
  rw [hu] at X1
  have X2 := fun W => cOpp_any u W
  rw [hq] at X2
  replace X2 := hid X2
  have X3 := fun W => cWithout_any a b W
  have X4 := fun W => cWithout_any b a W
  generalize (wthO a b).isSome = K at *
  generalize optS (wthO a b) = P at *
  generalize (wthO b a).isSome = K2 at *
  generalize optS (wthO b a) = Q at *
  clear hu hq
  obtain ⟨⟨v, m⟩, l, h⟩ := a
  obtain ⟨⟨v', m'⟩, l', h'⟩ := b
  unfold tri
  unfold sv at X3 X4 ⊢
  dsimp only at X3 X4 ⊢
  replace X1 := hid X1
  replace X3 := hid X3
  replace X4 := hid X4
  cases K
  · rw [Bool.false_and]
    go_enter Tryz.func62, Tryz.ntmps62
    go_wp2_with fail
    have JX : SC ((((w.alloc (.cells #[.int .u64 (ub v), .int .u64 (ub m), .int .u64 (ub l), .int .u64 (ub h)] 28)).alloc (.cells #[.int .u64 (ub v'), .int .u64 (ub m'), .int .u64 (ub l'), .int .u64 (ub h')] 28)).alloc (.cells #[.int .u64 0, .int .u64 0, .int .u64 0, .int .u64 0] 28)).alloc (.cells #[.int .u64 0, .int .u64 0, .int .u64 0, .int .u64 0] 28)) (w.heap.size) ((v, m), l, h) := ((((SC.new (x := ((v, m), l, h)) rfl).alloc _).alloc _).alloc _)
    have JY : SC ((((w.alloc (.cells #[.int .u64 (ub v), .int .u64 (ub m), .int .u64 (ub l), .int .u64 (ub h)] 28)).alloc (.cells #[.int .u64 (ub v'), .int .u64 (ub m'), .int .u64 (ub l'), .int .u64 (ub h')] 28)).alloc (.cells #[.int .u64 0, .int .u64 0, .int .u64 0, .int .u64 0] 28)).alloc (.cells #[.int .u64 0, .int .u64 0, .int .u64 0, .int .u64 0] 28)) (w.heap.size + 1) ((v', m'), l', h') := (((SC.new (x := ((v', m'), l', h')) (by simp)).alloc _).alloc _)
    have JR : SC ((((w.alloc (.cells #[.int .u64 (ub v), .int .u64 (ub m), .int .u64 (ub l), .int .u64 (ub h)] 28)).alloc (.cells #[.int .u64 (ub v'), .int .u64 (ub m'), .int .u64 (ub l'), .int .u64 (ub h')] 28)).alloc (.cells #[.int .u64 0, .int .u64 0, .int .u64 0, .int .u64 0] 28)).alloc (.cells #[.int .u64 0, .int .u64 0, .int .u64 0, .int .u64 0] 28)) (w.heap.size + 1 + 1) sc0 := ((SC.new (x := sc0) (by simp)).alloc _)
    have JRb : SC ((((w.alloc (.cells #[.int .u64 (ub v), .int .u64 (ub m), .int .u64 (ub l), .int .u64 (ub h)] 28)).alloc (.cells #[.int .u64 (ub v'), .int .u64 (ub m'), .int .u64 (ub l'), .int .u64 (ub h')] 28)).alloc (.cells #[.int .u64 0, .int .u64 0, .int .u64 0, .int .u64 0] 28)).alloc (.cells #[.int .u64 0, .int .u64 0, .int .u64 0, .int .u64 0] 28)) (w.heap.size + 1 + 1 + 1) sc0 := (SC.new (x := sc0) (by simp))
    have B : Below w.heap.size w ((((w.alloc (.cells #[.int .u64 (ub v), .int .u64 (ub m), .int .u64 (ub l), .int .u64 (ub h)] 28)).alloc (.cells #[.int .u64 (ub v'), .int .u64 (ub m'), .int .u64 (ub l'), .int .u64 (ub h')] 28)).alloc (.cells #[.int .u64 0, .int .u64 0, .int .u64 0, .int .u64 0] 28)).alloc (.cells #[.int .u64 0, .int .u64 0, .int .u64 0, .int .u64 0] 28)) := (bel_alloc (bel_alloc (bel_alloc (bel_alloc (Below.refl _ _)))))
    generalize ((((w.alloc (.cells #[.int .u64 (ub v), .int .u64 (ub m), .int .u64 (ub l), .int .u64 (ub h)] 28)).alloc (.cells #[.int .u64 (ub v'), .int .u64 (ub m'), .int .u64 (ub l'), .int .u64 (ub h')] 28)).alloc (.cells #[.int .u64 0, .int .u64 0, .int .u64 0, .int .u64 0] 28)).alloc (.cells #[.int .u64 0, .int .u64 0, .int .u64 0, .int .u64 0] 28)) = w00 at *
    obtain ⟨JXl, JX0, JX1, JX2, JX3⟩ := JX.k
    obtain ⟨JYl, JY0, JY1, JY2, JY3⟩ := JY.k
    obtain ⟨JRl, JR0, JR1, JR2, JR3, JRf0, JRf1, JRf2, JRf3⟩ := id JR
    obtain ⟨JRbl, JRb0, JRb1, JRb2, JRb3, JRbf0, JRbf1, JRbf2, JRbf3⟩ := id JRb
    have lb := B.size
    go_wp2_with fail
    refine (X1.out _).mono ?_
    rintro e w_ ⟨rfl, rfl⟩
    clear JX0 JX1 JX2 JX3 JXl JY0 JY1 JY2 JY3 JYl JR0 JR1 JR2 JR3 JRl JRf0 JRf1 JRf2 JRf3 JRb0 JRb1 JRb2 JRb3 JRbl JRbf0 JRbf1 JRbf2 JRbf3 lb
    obtain ⟨JXl, JX0, JX1, JX2, JX3⟩ := JX.k
    obtain ⟨JYl, JY0, JY1, JY2, JY3⟩ := JY.k
    obtain ⟨JRl, JR0, JR1, JR2, JR3, JRf0, JRf1, JRf2, JRf3⟩ := id JR
    obtain ⟨JRbl, JRb0, JRb1, JRb2, JRb3, JRbf0, JRbf1, JRbf2, JRbf3⟩ := id JRb
    have lb := B.size
    go_wp2_with fail
    refine (X2.out _).mono ?_
    rintro e w_ ⟨rfl, rfl⟩
    clear JX0 JX1 JX2 JX3 JXl JY0 JY1 JY2 JY3 JYl JR0 JR1 JR2 JR3 JRl JRf0 JRf1 JRf2 JRf3 JRb0 JRb1 JRb2 JRb3 JRbl JRbf0 JRbf1 JRbf2 JRbf3 lb
    obtain ⟨JXl, JX0, JX1, JX2, JX3⟩ := JX.k
    obtain ⟨JYl, JY0, JY1, JY2, JY3⟩ := JY.k
    obtain ⟨JRl, JR0, JR1, JR2, JR3, JRf0, JRf1, JRf2, JRf3⟩ := id JR
    obtain ⟨JRbl, JRb0, JRb1, JRb2, JRb3, JRbf0, JRbf1, JRbf2, JRbf3⟩ := id JRb
    have lb := B.size
    go_wp2_with fail
    refine (X3.out _).mono ?_
    rintro e w1 ⟨rfl, z⟩
    clear JX0 JX1 JX2 JX3 JXl JY0 JY1 JY2 JY3 JYl JR0 JR1 JR2 JR3 JRl JRf0 JRf1 JRf2 JRf3 JRb0 JRb1 JRb2 JRb3 JRbl JRbf0 JRbf1 JRbf2 JRbf3 lb
    replace JX := JX.below z
    replace JY := JY.below z
    replace JR := JR.below z
    replace JRb := JRb.below z
    replace B := below_next B z
    clear z
    obtain ⟨JXl, JX0, JX1, JX2, JX3⟩ := JX.k
    obtain ⟨JYl, JY0, JY1, JY2, JY3⟩ := JY.k
    obtain ⟨JRl, JR0, JR1, JR2, JR3, JRf0, JRf1, JRf2, JRf3⟩ := id JR
    obtain ⟨JRbl, JRb0, JRb1, JRb2, JRb3, JRbf0, JRbf1, JRbf2, JRbf3⟩ := id JRb
    have lb := B.size
    go_wp2_with fail
    refine (X4.out _).mono ?_
    rintro e w2 ⟨rfl, z⟩
    clear JX0 JX1 JX2 JX3 JXl JY0 JY1 JY2 JY3 JYl JR0 JR1 JR2 JR3 JRl JRf0 JRf1 JRf2 JRf3 JRb0 JRb1 JRb2 JRb3 JRbl JRbf0 JRbf1 JRbf2 JRbf3 lb
    have g2JX : w.heap.size < w1.heap.size := JX.lt
    have g2JY : w.heap.size + 1 < w1.heap.size := JY.lt
    have g2JR : w.heap.size + 1 + 1 < w1.heap.size := JR.lt
    have g2JRb : w.heap.size + 1 + 1 + 1 < w1.heap.size := JRb.lt
    have g2B := B.size
    replace JX := (JX.alloc _).below z
    replace JY := (JY.alloc _).below z
    replace JR := (JR.alloc _).below z
    replace JRb := (JRb.alloc _).below z
    have JM : SC w2 (w1.heap.size) (P) := (SC.new rfl).below z
    replace B := below_next (bel_alloc B) z
    clear z
    obtain ⟨JXl, JX0, JX1, JX2, JX3⟩ := JX.k
    obtain ⟨JYl, JY0, JY1, JY2, JY3⟩ := JY.k
    obtain ⟨JRl, JR0, JR1, JR2, JR3, JRf0, JRf1, JRf2, JRf3⟩ := id JR
    obtain ⟨JRbl, JRb0, JRb1, JRb2, JRb3, JRbf0, JRbf1, JRbf2, JRbf3⟩ := id JRb
    obtain ⟨JMl, JM0, JM1, JM2, JM3⟩ := JM.k
    have lb := B.size
    go_wp2_with fail
    clear JX0 JX1 JX2 JX3 JXl JY0 JY1 JY2 JY3 JYl JR0 JR1 JR2 JR3 JRl JRf0 JRf1 JRf2 JRf3 JRb0 JRb1 JRb2 JRb3 JRbl JRbf0 JRbf1 JRbf2 JRbf3 JM0 JM1 JM2 JM3 JMl lb
    have JN : SC (w2.alloc (.cells #[.int .u64 (ub Q.1.1), .int .u64 (ub Q.1.2), .int .u64 (ub Q.2.1), .int .u64 (ub Q.2.2)] 28)) (w2.heap.size) Q := (SC.new (x := Q) rfl)
    have gq2JX : w.heap.size < w2.heap.size := JX.lt
    replace JX := (JX.alloc (.cells #[.int .u64 (ub Q.1.1), .int .u64 (ub Q.1.2), .int .u64 (ub Q.2.1), .int .u64 (ub Q.2.2)] 28))
    have gq2JY : w.heap.size + 1 < w2.heap.size := JY.lt
    replace JY := (JY.alloc (.cells #[.int .u64 (ub Q.1.1), .int .u64 (ub Q.1.2), .int .u64 (ub Q.2.1), .int .u64 (ub Q.2.2)] 28))
    have gq2JR : w.heap.size + 1 + 1 < w2.heap.size := JR.lt
    replace JR := (JR.alloc (.cells #[.int .u64 (ub Q.1.1), .int .u64 (ub Q.1.2), .int .u64 (ub Q.2.1), .int .u64 (ub Q.2.2)] 28))
    have gq2JRb : w.heap.size + 1 + 1 + 1 < w2.heap.size := JRb.lt
    replace JRb := (JRb.alloc (.cells #[.int .u64 (ub Q.1.1), .int .u64 (ub Q.1.2), .int .u64 (ub Q.2.1), .int .u64 (ub Q.2.2)] 28))
    have gq2JM : w1.heap.size < w2.heap.size := JM.lt
    replace JM := (JM.alloc (.cells #[.int .u64 (ub Q.1.1), .int .u64 (ub Q.1.2), .int .u64 (ub Q.2.1), .int .u64 (ub Q.2.2)] 28))
    replace B := (bel_alloc (o := (.cells #[.int .u64 (ub Q.1.1), .int .u64 (ub Q.1.2), .int .u64 (ub Q.2.1), .int .u64 (ub Q.2.2)] 28)) B)
    generalize (w2.alloc (.cells #[.int .u64 (ub Q.1.1), .int .u64 (ub Q.1.2), .int .u64 (ub Q.2.1), .int .u64 (ub Q.2.2)] 28)) = w3 at *
    obtain ⟨JXl, JX0, JX1, JX2, JX3⟩ := JX.k
    obtain ⟨JYl, JY0, JY1, JY2, JY3⟩ := JY.k
    obtain ⟨JRl, JR0, JR1, JR2, JR3, JRf0, JRf1, JRf2, JRf3⟩ := id JR
    obtain ⟨JRbl, JRb0, JRb1, JRb2, JRb3, JRbf0, JRbf1, JRbf2, JRbf3⟩ := id JRb
    obtain ⟨JMl, JM0, JM1, JM2, JM3⟩ := JM.k
    obtain ⟨JNl, JN0, JN1, JN2, JN3⟩ := JN.k
    have lb := B.size
    go_wp2_with fail
    clear JX0 JX1 JX2 JX3 JXl JY0 JY1 JY2 JY3 JYl JR0 JR1 JR2 JR3 JRl JRf0 JRf1 JRf2 JRf3 JRb0 JRb1 JRb2 JRb3 JRbl JRbf0 JRbf1 JRbf2 JRbf3 JM0 JM1 JM2 JM3 JMl JN0 JN1 JN2 JN3 JNl lb
    obtain ⟨JXdl, JXd0, JXd1, JXd2, JXd3, JXdf0, JXdf1, JXdf2, JXdf3⟩ := id JX
    obtain ⟨JYdl, JYd0, JYd1, JYd2, JYd3, JYdf0, JYdf1, JYdf2, JYdf3⟩ := id JY
    obtain ⟨JRdl, JRd0, JRd1, JRd2, JRd3, JRdf0, JRdf1, JRdf2, JRdf3⟩ := id JR
    obtain ⟨JRbdl, JRbd0, JRbd1, JRbd2, JRbd3, JRbdf0, JRbdf1, JRbdf2, JRbdf3⟩ := id JRb
    obtain ⟨JMdl, JMd0, JMd1, JMd2, JMd3, JMdf0, JMdf1, JMdf2, JMdf3⟩ := id JM
    obtain ⟨JNdl, JNd0, JNd1, JNd2, JNd3, JNdf0, JNdf1, JNdf2, JNdf3⟩ := id JN
    have ld := B.size
    have hu : undef = Value.tuple #[] := rfl
    apply cutF (F := fun W' => SC W' (w.heap.size) ((v, m), l, h) ∧ SC W' (w.heap.size + 1) ((v', m'), l', h') ∧ SC W' (w.heap.size + 1 + 1) (P) ∧ SC W' (w.heap.size + 1 + 1 + 1) (Q) ∧ SC W' (w1.heap.size) P ∧ SC W' (w2.heap.size) Q ∧ Below w.heap.size w W')
    · first | (go_region_law (fail)) | fail
      all_goals exact ⟨⟨(((JX.other (c := w.heap.size + 1 + 1) (by omega) (P)).other (c := w.heap.size + 1 + 1 + 1) (by omega) (Q)).below (below_dr _)), (((JY.other (c := w.heap.size + 1 + 1) (by omega) (P)).other (c := w.heap.size + 1 + 1 + 1) (by omega) (Q)).below (below_dr _)), (((JR.put (P)).other (c := w.heap.size + 1 + 1 + 1) (by omega) (Q)).below (below_dr _)), (((JRb.other (c := w.heap.size + 1 + 1) (by omega) (P)).put (Q)).below (below_dr _)), (((JM.other (c := w.heap.size + 1 + 1) (by omega) (P)).other (c := w.heap.size + 1 + 1 + 1) (by omega) (Q)).below (below_dr _)), (((JN.other (c := w.heap.size + 1 + 1) (by omega) (P)).other (c := w.heap.size + 1 + 1 + 1) (by omega) (Q)).below (below_dr _)), below_next (putS_below (Q) (putS_below (P) B (by omega : w.heap.size ≤ w.heap.size + 1 + 1)) (by omega : w.heap.size ≤ w.heap.size + 1 + 1 + 1)) (below_dr _)⟩, rfl⟩
    clear JXd0 JXd1 JXd2 JXd3 JXdl JXdf0 JXdf1 JXdf2 JXdf3 JYd0 JYd1 JYd2 JYd3 JYdl JYdf0 JYdf1 JYdf2 JYdf3 JRd0 JRd1 JRd2 JRd3 JRdl JRdf0 JRdf1 JRdf2 JRdf3 JRbd0 JRbd1 JRbd2 JRbd3 JRbdl JRbdf0 JRbdf1 JRbdf2 JRbdf3 JMd0 JMd1 JMd2 JMd3 JMdl JMdf0 JMdf1 JMdf2 JMdf3 JNd0 JNd1 JNd2 JNd3 JNdl JNdf0 JNdf1 JNdf2 JNdf3 ld hu
    clear JX JY JR JRb JM JN B
    intro w4 ⟨JX, JY, JR, JRb, JM, JN, B⟩
    obtain ⟨JXl, JX0, JX1, JX2, JX3⟩ := JX.k
    obtain ⟨JYl, JY0, JY1, JY2, JY3⟩ := JY.k
    obtain ⟨JRl, JR0, JR1, JR2, JR3, JRf0, JRf1, JRf2, JRf3⟩ := id JR
    obtain ⟨JRbl, JRb0, JRb1, JRb2, JRb3, JRbf0, JRbf1, JRbf2, JRbf3⟩ := id JRb
    obtain ⟨JMl, JM0, JM1, JM2, JM3⟩ := JM.k
    obtain ⟨JNl, JN0, JN1, JN2, JN3⟩ := JN.k
    have lb := B.size
    go_wp2
    exact bodyPost_ret (v := .tuple #[sv P, sv Q, .bool false]) (by simp [results, Tryz.results62, go_sem, JX0, JX1, JX2, JX3, JXl, JY0, JY1, JY2, JY3, JYl, JR0, JR1, JR2, JR3, JRl, JRb0, JRb1, JRb2, JRb3, JRbl, JM0, JM1, JM2, JM3, JMl, JN0, JN1, JN2, JN3, JNl]; try first | rfl | exact ⟨rfl, rfl⟩) rfl ⟨rfl, B⟩
  · rw [Bool.true_and]
    go_enter Tryz.func62, Tryz.ntmps62
    go_wp2_with fail
    have JX : SC ((((w.alloc (.cells #[.int .u64 (ub v), .int .u64 (ub m), .int .u64 (ub l), .int .u64 (ub h)] 28)).alloc (.cells #[.int .u64 (ub v'), .int .u64 (ub m'), .int .u64 (ub l'), .int .u64 (ub h')] 28)).alloc (.cells #[.int .u64 0, .int .u64 0, .int .u64 0, .int .u64 0] 28)).alloc (.cells #[.int .u64 0, .int .u64 0, .int .u64 0, .int .u64 0] 28)) (w.heap.size) ((v, m), l, h) := ((((SC.new (x := ((v, m), l, h)) rfl).alloc _).alloc _).alloc _)
    have JY : SC ((((w.alloc (.cells #[.int .u64 (ub v), .int .u64 (ub m), .int .u64 (ub l), .int .u64 (ub h)] 28)).alloc (.cells #[.int .u64 (ub v'), .int .u64 (ub m'), .int .u64 (ub l'), .int .u64 (ub h')] 28)).alloc (.cells #[.int .u64 0, .int .u64 0, .int .u64 0, .int .u64 0] 28)).alloc (.cells #[.int .u64 0, .int .u64 0, .int .u64 0, .int .u64 0] 28)) (w.heap.size + 1) ((v', m'), l', h') := (((SC.new (x := ((v', m'), l', h')) (by simp)).alloc _).alloc _)
    have JR : SC ((((w.alloc (.cells #[.int .u64 (ub v), .int .u64 (ub m), .int .u64 (ub l), .int .u64 (ub h)] 28)).alloc (.cells #[.int .u64 (ub v'), .int .u64 (ub m'), .int .u64 (ub l'), .int .u64 (ub h')] 28)).alloc (.cells #[.int .u64 0, .int .u64 0, .int .u64 0, .int .u64 0] 28)).alloc (.cells #[.int .u64 0, .int .u64 0, .int .u64 0, .int .u64 0] 28)) (w.heap.size + 1 + 1) sc0 := ((SC.new (x := sc0) (by simp)).alloc _)
    have JRb : SC ((((w.alloc (.cells #[.int .u64 (ub v), .int .u64 (ub m), .int .u64 (ub l), .int .u64 (ub h)] 28)).alloc (.cells #[.int .u64 (ub v'), .int .u64 (ub m'), .int .u64 (ub l'), .int .u64 (ub h')] 28)).alloc (.cells #[.int .u64 0, .int .u64 0, .int .u64 0, .int .u64 0] 28)).alloc (.cells #[.int .u64 0, .int .u64 0, .int .u64 0, .int .u64 0] 28)) (w.heap.size + 1 + 1 + 1) sc0 := (SC.new (x := sc0) (by simp))
    have B : Below w.heap.size w ((((w.alloc (.cells #[.int .u64 (ub v), .int .u64 (ub m), .int .u64 (ub l), .int .u64 (ub h)] 28)).alloc (.cells #[.int .u64 (ub v'), .int .u64 (ub m'), .int .u64 (ub l'), .int .u64 (ub h')] 28)).alloc (.cells #[.int .u64 0, .int .u64 0, .int .u64 0, .int .u64 0] 28)).alloc (.cells #[.int .u64 0, .int .u64 0, .int .u64 0, .int .u64 0] 28)) := (bel_alloc (bel_alloc (bel_alloc (bel_alloc (Below.refl _ _)))))
    generalize ((((w.alloc (.cells #[.int .u64 (ub v), .int .u64 (ub m), .int .u64 (ub l), .int .u64 (ub h)] 28)).alloc (.cells #[.int .u64 (ub v'), .int .u64 (ub m'), .int .u64 (ub l'), .int .u64 (ub h')] 28)).alloc (.cells #[.int .u64 0, .int .u64 0, .int .u64 0, .int .u64 0] 28)).alloc (.cells #[.int .u64 0, .int .u64 0, .int .u64 0, .int .u64 0] 28)) = w00 at *
    obtain ⟨JXl, JX0, JX1, JX2, JX3⟩ := JX.k
    obtain ⟨JYl, JY0, JY1, JY2, JY3⟩ := JY.k
    obtain ⟨JRl, JR0, JR1, JR2, JR3, JRf0, JRf1, JRf2, JRf3⟩ := id JR
    obtain ⟨JRbl, JRb0, JRb1, JRb2, JRb3, JRbf0, JRbf1, JRbf2, JRbf3⟩ := id JRb
    have lb := B.size
    go_wp2_with fail
    refine (X1.out _).mono ?_
    rintro e w_ ⟨rfl, rfl⟩
    clear JX0 JX1 JX2 JX3 JXl JY0 JY1 JY2 JY3 JYl JR0 JR1 JR2 JR3 JRl JRf0 JRf1 JRf2 JRf3 JRb0 JRb1 JRb2 JRb3 JRbl JRbf0 JRbf1 JRbf2 JRbf3 lb
    obtain ⟨JXl, JX0, JX1, JX2, JX3⟩ := JX.k
    obtain ⟨JYl, JY0, JY1, JY2, JY3⟩ := JY.k
    obtain ⟨JRl, JR0, JR1, JR2, JR3, JRf0, JRf1, JRf2, JRf3⟩ := id JR
    obtain ⟨JRbl, JRb0, JRb1, JRb2, JRb3, JRbf0, JRbf1, JRbf2, JRbf3⟩ := id JRb
    have lb := B.size
    go_wp2_with fail
    refine (X2.out _).mono ?_
    rintro e w_ ⟨rfl, rfl⟩
    clear JX0 JX1 JX2 JX3 JXl JY0 JY1 JY2 JY3 JYl JR0 JR1 JR2 JR3 JRl JRf0 JRf1 JRf2 JRf3 JRb0 JRb1 JRb2 JRb3 JRbl JRbf0 JRbf1 JRbf2 JRbf3 lb
    obtain ⟨JXl, JX0, JX1, JX2, JX3⟩ := JX.k
    obtain ⟨JYl, JY0, JY1, JY2, JY3⟩ := JY.k
    obtain ⟨JRl, JR0, JR1, JR2, JR3, JRf0, JRf1, JRf2, JRf3⟩ := id JR
    obtain ⟨JRbl, JRb0, JRb1, JRb2, JRb3, JRbf0, JRbf1, JRbf2, JRbf3⟩ := id JRb
    have lb := B.size
    go_wp2_with fail
    refine (X3.out _).mono ?_
    rintro e w1 ⟨rfl, z⟩
    clear JX0 JX1 JX2 JX3 JXl JY0 JY1 JY2 JY3 JYl JR0 JR1 JR2 JR3 JRl JRf0 JRf1 JRf2 JRf3 JRb0 JRb1 JRb2 JRb3 JRbl JRbf0 JRbf1 JRbf2 JRbf3 lb
    replace JX := JX.below z
    replace JY := JY.below z
    replace JR := JR.below z
    replace JRb := JRb.below z
    replace B := below_next B z
    clear z
    obtain ⟨JXl, JX0, JX1, JX2, JX3⟩ := JX.k
    obtain ⟨JYl, JY0, JY1, JY2, JY3⟩ := JY.k
    obtain ⟨JRl, JR0, JR1, JR2, JR3, JRf0, JRf1, JRf2, JRf3⟩ := id JR
    obtain ⟨JRbl, JRb0, JRb1, JRb2, JRb3, JRbf0, JRbf1, JRbf2, JRbf3⟩ := id JRb
    have lb := B.size
    go_wp2_with fail
    refine (X4.out _).mono ?_
    rintro e w2 ⟨rfl, z⟩
    clear JX0 JX1 JX2 JX3 JXl JY0 JY1 JY2 JY3 JYl JR0 JR1 JR2 JR3 JRl JRf0 JRf1 JRf2 JRf3 JRb0 JRb1 JRb2 JRb3 JRbl JRbf0 JRbf1 JRbf2 JRbf3 lb
    have g2JX : w.heap.size < w1.heap.size := JX.lt
    have g2JY : w.heap.size + 1 < w1.heap.size := JY.lt
    have g2JR : w.heap.size + 1 + 1 < w1.heap.size := JR.lt
    have g2JRb : w.heap.size + 1 + 1 + 1 < w1.heap.size := JRb.lt
    have g2B := B.size
    replace JX := (JX.alloc _).below z
    replace JY := (JY.alloc _).below z
    replace JR := (JR.alloc _).below z
    replace JRb := (JRb.alloc _).below z
    have JM : SC w2 (w1.heap.size) (P) := (SC.new rfl).below z
    replace B := below_next (bel_alloc B) z
    clear z
    obtain ⟨JXl, JX0, JX1, JX2, JX3⟩ := JX.k
    obtain ⟨JYl, JY0, JY1, JY2, JY3⟩ := JY.k
    obtain ⟨JRl, JR0, JR1, JR2, JR3, JRf0, JRf1, JRf2, JRf3⟩ := id JR
    obtain ⟨JRbl, JRb0, JRb1, JRb2, JRb3, JRbf0, JRbf1, JRbf2, JRbf3⟩ := id JRb
    obtain ⟨JMl, JM0, JM1, JM2, JM3⟩ := JM.k
    have lb := B.size
    go_wp2_with fail
    clear JX0 JX1 JX2 JX3 JXl JY0 JY1 JY2 JY3 JYl JR0 JR1 JR2 JR3 JRl JRf0 JRf1 JRf2 JRf3 JRb0 JRb1 JRb2 JRb3 JRbl JRbf0 JRbf1 JRbf2 JRbf3 JM0 JM1 JM2 JM3 JMl lb
    have JN : SC (w2.alloc (.cells #[.int .u64 (ub Q.1.1), .int .u64 (ub Q.1.2), .int .u64 (ub Q.2.1), .int .u64 (ub Q.2.2)] 28)) (w2.heap.size) Q := (SC.new (x := Q) rfl)
    have gq2JX : w.heap.size < w2.heap.size := JX.lt
    replace JX := (JX.alloc (.cells #[.int .u64 (ub Q.1.1), .int .u64 (ub Q.1.2), .int .u64 (ub Q.2.1), .int .u64 (ub Q.2.2)] 28))
    have gq2JY : w.heap.size + 1 < w2.heap.size := JY.lt
    replace JY := (JY.alloc (.cells #[.int .u64 (ub Q.1.1), .int .u64 (ub Q.1.2), .int .u64 (ub Q.2.1), .int .u64 (ub Q.2.2)] 28))
    have gq2JR : w.heap.size + 1 + 1 < w2.heap.size := JR.lt
    replace JR := (JR.alloc (.cells #[.int .u64 (ub Q.1.1), .int .u64 (ub Q.1.2), .int .u64 (ub Q.2.1), .int .u64 (ub Q.2.2)] 28))
    have gq2JRb : w.heap.size + 1 + 1 + 1 < w2.heap.size := JRb.lt
    replace JRb := (JRb.alloc (.cells #[.int .u64 (ub Q.1.1), .int .u64 (ub Q.1.2), .int .u64 (ub Q.2.1), .int .u64 (ub Q.2.2)] 28))
    have gq2JM : w1.heap.size < w2.heap.size := JM.lt
    replace JM := (JM.alloc (.cells #[.int .u64 (ub Q.1.1), .int .u64 (ub Q.1.2), .int .u64 (ub Q.2.1), .int .u64 (ub Q.2.2)] 28))
    replace B := (bel_alloc (o := (.cells #[.int .u64 (ub Q.1.1), .int .u64 (ub Q.1.2), .int .u64 (ub Q.2.1), .int .u64 (ub Q.2.2)] 28)) B)
    generalize (w2.alloc (.cells #[.int .u64 (ub Q.1.1), .int .u64 (ub Q.1.2), .int .u64 (ub Q.2.1), .int .u64 (ub Q.2.2)] 28)) = w3 at *
    obtain ⟨JXl, JX0, JX1, JX2, JX3⟩ := JX.k
    obtain ⟨JYl, JY0, JY1, JY2, JY3⟩ := JY.k
    obtain ⟨JRl, JR0, JR1, JR2, JR3, JRf0, JRf1, JRf2, JRf3⟩ := id JR
    obtain ⟨JRbl, JRb0, JRb1, JRb2, JRb3, JRbf0, JRbf1, JRbf2, JRbf3⟩ := id JRb
    obtain ⟨JMl, JM0, JM1, JM2, JM3⟩ := JM.k
    obtain ⟨JNl, JN0, JN1, JN2, JN3⟩ := JN.k
    have lb := B.size
    go_wp2_with fail
    clear JX0 JX1 JX2 JX3 JXl JY0 JY1 JY2 JY3 JYl JR0 JR1 JR2 JR3 JRl JRf0 JRf1 JRf2 JRf3 JRb0 JRb1 JRb2 JRb3 JRbl JRbf0 JRbf1 JRbf2 JRbf3 JM0 JM1 JM2 JM3 JMl JN0 JN1 JN2 JN3 JNl lb
    obtain ⟨JXdl, JXd0, JXd1, JXd2, JXd3, JXdf0, JXdf1, JXdf2, JXdf3⟩ := id JX
    obtain ⟨JYdl, JYd0, JYd1, JYd2, JYd3, JYdf0, JYdf1, JYdf2, JYdf3⟩ := id JY
    obtain ⟨JRdl, JRd0, JRd1, JRd2, JRd3, JRdf0, JRdf1, JRdf2, JRdf3⟩ := id JR
    obtain ⟨JRbdl, JRbd0, JRbd1, JRbd2, JRbd3, JRbdf0, JRbdf1, JRbdf2, JRbdf3⟩ := id JRb
    obtain ⟨JMdl, JMd0, JMd1, JMd2, JMd3, JMdf0, JMdf1, JMdf2, JMdf3⟩ := id JM
    obtain ⟨JNdl, JNd0, JNd1, JNd2, JNd3, JNdf0, JNdf1, JNdf2, JNdf3⟩ := id JN
    have ld := B.size
    have hu : undef = Value.tuple #[] := rfl
    apply cutF (F := fun W' => SC W' (w.heap.size) ((v, m), l, h) ∧ SC W' (w.heap.size + 1) ((v', m'), l', h') ∧ SC W' (w.heap.size + 1 + 1) (P) ∧ SC W' (w.heap.size + 1 + 1 + 1) (Q) ∧ SC W' (w1.heap.size) P ∧ SC W' (w2.heap.size) Q ∧ Below w.heap.size w W')
    · first | (go_region_law (fail)) | fail
      all_goals exact ⟨⟨(((JX.other (c := w.heap.size + 1 + 1) (by omega) (P)).other (c := w.heap.size + 1 + 1 + 1) (by omega) (Q)).below (below_dr _)), (((JY.other (c := w.heap.size + 1 + 1) (by omega) (P)).other (c := w.heap.size + 1 + 1 + 1) (by omega) (Q)).below (below_dr _)), (((JR.put (P)).other (c := w.heap.size + 1 + 1 + 1) (by omega) (Q)).below (below_dr _)), (((JRb.other (c := w.heap.size + 1 + 1) (by omega) (P)).put (Q)).below (below_dr _)), (((JM.other (c := w.heap.size + 1 + 1) (by omega) (P)).other (c := w.heap.size + 1 + 1 + 1) (by omega) (Q)).below (below_dr _)), (((JN.other (c := w.heap.size + 1 + 1) (by omega) (P)).other (c := w.heap.size + 1 + 1 + 1) (by omega) (Q)).below (below_dr _)), below_next (putS_below (Q) (putS_below (P) B (by omega : w.heap.size ≤ w.heap.size + 1 + 1)) (by omega : w.heap.size ≤ w.heap.size + 1 + 1 + 1)) (below_dr _)⟩, rfl⟩
    clear JXd0 JXd1 JXd2 JXd3 JXdl JXdf0 JXdf1 JXdf2 JXdf3 JYd0 JYd1 JYd2 JYd3 JYdl JYdf0 JYdf1 JYdf2 JYdf3 JRd0 JRd1 JRd2 JRd3 JRdl JRdf0 JRdf1 JRdf2 JRdf3 JRbd0 JRbd1 JRbd2 JRbd3 JRbdl JRbdf0 JRbdf1 JRbdf2 JRbdf3 JMd0 JMd1 JMd2 JMd3 JMdl JMdf0 JMdf1 JMdf2 JMdf3 JNd0 JNd1 JNd2 JNd3 JNdl JNdf0 JNdf1 JNdf2 JNdf3 ld hu
    clear JX JY JR JRb JM JN B
    intro w4 ⟨JX, JY, JR, JRb, JM, JN, B⟩
    obtain ⟨JXl, JX0, JX1, JX2, JX3⟩ := JX.k
    obtain ⟨JYl, JY0, JY1, JY2, JY3⟩ := JY.k
    obtain ⟨JRl, JR0, JR1, JR2, JR3, JRf0, JRf1, JRf2, JRf3⟩ := id JR
    obtain ⟨JRbl, JRb0, JRb1, JRb2, JRb3, JRbf0, JRbf1, JRbf2, JRbf3⟩ := id JRb
    obtain ⟨JMl, JM0, JM1, JM2, JM3⟩ := JM.k
    obtain ⟨JNl, JN0, JN1, JN2, JN3⟩ := JN.k
    have lb := B.size
    go_wp2
    exact bodyPost_ret (v := .tuple #[sv P, sv Q, .bool K2]) (by simp [results, Tryz.results62, go_sem, JX0, JX1, JX2, JX3, JXl, JY0, JY1, JY2, JY3, JYl, JR0, JR1, JR2, JR3, JRl, JRb0, JRb1, JRb2, JRb3, JRbl, JM0, JM1, JM2, JM3, JMl, JN0, JN1, JN2, JN3, JNl]; try first | rfl | exact ⟨rfl, rfl⟩) rfl ⟨rfl, B⟩
set_option maxHeartbeats 8000000 in
theorem cTold_n_2 (op u : Int) (a b : Sc) (hu : unsI op = u) (h4 : (u == 4) = false) (hq : oppI u = 2) (w : World) : Calls Tryz.prog 62 #[.int .i64 op, sv a, sv b, .bool false] w fun e w' => e = .returned (tri (abvT a b 1#64)) ∧ Below w.heap.size w w' := by
  have X1 := fun W => cUns_any op W
  rw [hu] at X1
  have X2 := fun W => cOpp_any u W
  rw [hq] at X2
  replace X2 := hid X2
  have X3 : ∀ W, Calls Tryz.prog 96 #[sv a, sv b, .int .u64 1] W fun e w' => e = .returned (tri (abvT a b 1#64)) ∧ Below W.heap.size W w' := fun W => cAbove_any a b 1#64 W
  generalize abvT a b 1#64 = R at *
  clear hu hq
  obtain ⟨⟨v, m⟩, l, h⟩ := a
  obtain ⟨⟨v', m'⟩, l', h'⟩ := b
  unfold tri at X3
  unfold tri
  unfold sv at X3 ⊢
  dsimp only at X3 ⊢
  replace X1 := hid X1
  replace X3 := hid X3
  go_enter Tryz.func62, Tryz.ntmps62
  go_wp2_with fail
  have JX : SC ((((w.alloc (.cells #[.int .u64 (ub v), .int .u64 (ub m), .int .u64 (ub l), .int .u64 (ub h)] 28)).alloc (.cells #[.int .u64 (ub v'), .int .u64 (ub m'), .int .u64 (ub l'), .int .u64 (ub h')] 28)).alloc (.cells #[.int .u64 0, .int .u64 0, .int .u64 0, .int .u64 0] 28)).alloc (.cells #[.int .u64 0, .int .u64 0, .int .u64 0, .int .u64 0] 28)) (w.heap.size) ((v, m), l, h) := ((((SC.new (x := ((v, m), l, h)) rfl).alloc _).alloc _).alloc _)
  have JY : SC ((((w.alloc (.cells #[.int .u64 (ub v), .int .u64 (ub m), .int .u64 (ub l), .int .u64 (ub h)] 28)).alloc (.cells #[.int .u64 (ub v'), .int .u64 (ub m'), .int .u64 (ub l'), .int .u64 (ub h')] 28)).alloc (.cells #[.int .u64 0, .int .u64 0, .int .u64 0, .int .u64 0] 28)).alloc (.cells #[.int .u64 0, .int .u64 0, .int .u64 0, .int .u64 0] 28)) (w.heap.size + 1) ((v', m'), l', h') := (((SC.new (x := ((v', m'), l', h')) (by simp)).alloc _).alloc _)
  have JR : SC ((((w.alloc (.cells #[.int .u64 (ub v), .int .u64 (ub m), .int .u64 (ub l), .int .u64 (ub h)] 28)).alloc (.cells #[.int .u64 (ub v'), .int .u64 (ub m'), .int .u64 (ub l'), .int .u64 (ub h')] 28)).alloc (.cells #[.int .u64 0, .int .u64 0, .int .u64 0, .int .u64 0] 28)).alloc (.cells #[.int .u64 0, .int .u64 0, .int .u64 0, .int .u64 0] 28)) (w.heap.size + 1 + 1) sc0 := ((SC.new (x := sc0) (by simp)).alloc _)
  have JRb : SC ((((w.alloc (.cells #[.int .u64 (ub v), .int .u64 (ub m), .int .u64 (ub l), .int .u64 (ub h)] 28)).alloc (.cells #[.int .u64 (ub v'), .int .u64 (ub m'), .int .u64 (ub l'), .int .u64 (ub h')] 28)).alloc (.cells #[.int .u64 0, .int .u64 0, .int .u64 0, .int .u64 0] 28)).alloc (.cells #[.int .u64 0, .int .u64 0, .int .u64 0, .int .u64 0] 28)) (w.heap.size + 1 + 1 + 1) sc0 := (SC.new (x := sc0) (by simp))
  have B : Below w.heap.size w ((((w.alloc (.cells #[.int .u64 (ub v), .int .u64 (ub m), .int .u64 (ub l), .int .u64 (ub h)] 28)).alloc (.cells #[.int .u64 (ub v'), .int .u64 (ub m'), .int .u64 (ub l'), .int .u64 (ub h')] 28)).alloc (.cells #[.int .u64 0, .int .u64 0, .int .u64 0, .int .u64 0] 28)).alloc (.cells #[.int .u64 0, .int .u64 0, .int .u64 0, .int .u64 0] 28)) := (bel_alloc (bel_alloc (bel_alloc (bel_alloc (Below.refl _ _)))))
  generalize ((((w.alloc (.cells #[.int .u64 (ub v), .int .u64 (ub m), .int .u64 (ub l), .int .u64 (ub h)] 28)).alloc (.cells #[.int .u64 (ub v'), .int .u64 (ub m'), .int .u64 (ub l'), .int .u64 (ub h')] 28)).alloc (.cells #[.int .u64 0, .int .u64 0, .int .u64 0, .int .u64 0] 28)).alloc (.cells #[.int .u64 0, .int .u64 0, .int .u64 0, .int .u64 0] 28)) = w00 at *
  obtain ⟨JXl, JX0, JX1, JX2, JX3⟩ := JX.k
  obtain ⟨JYl, JY0, JY1, JY2, JY3⟩ := JY.k
  obtain ⟨JRl, JR0, JR1, JR2, JR3, JRf0, JRf1, JRf2, JRf3⟩ := id JR
  obtain ⟨JRbl, JRb0, JRb1, JRb2, JRb3, JRbf0, JRbf1, JRbf2, JRbf3⟩ := id JRb
  have lb := B.size
  go_wp2_with fail
  refine (X1.out _).mono ?_
  rintro e w_ ⟨rfl, rfl⟩
  clear JX0 JX1 JX2 JX3 JXl JY0 JY1 JY2 JY3 JYl JR0 JR1 JR2 JR3 JRl JRf0 JRf1 JRf2 JRf3 JRb0 JRb1 JRb2 JRb3 JRbl JRbf0 JRbf1 JRbf2 JRbf3 lb
  obtain ⟨JXl, JX0, JX1, JX2, JX3⟩ := JX.k
  obtain ⟨JYl, JY0, JY1, JY2, JY3⟩ := JY.k
  obtain ⟨JRl, JR0, JR1, JR2, JR3, JRf0, JRf1, JRf2, JRf3⟩ := id JR
  obtain ⟨JRbl, JRb0, JRb1, JRb2, JRb3, JRbf0, JRbf1, JRbf2, JRbf3⟩ := id JRb
  have lb := B.size
  go_wp2_with fail
  refine (X2.out _).mono ?_
  rintro e w_ ⟨rfl, rfl⟩
  clear JX0 JX1 JX2 JX3 JXl JY0 JY1 JY2 JY3 JYl JR0 JR1 JR2 JR3 JRl JRf0 JRf1 JRf2 JRf3 JRb0 JRb1 JRb2 JRb3 JRbl JRbf0 JRbf1 JRbf2 JRbf3 lb
  obtain ⟨JXl, JX0, JX1, JX2, JX3⟩ := JX.k
  obtain ⟨JYl, JY0, JY1, JY2, JY3⟩ := JY.k
  obtain ⟨JRl, JR0, JR1, JR2, JR3, JRf0, JRf1, JRf2, JRf3⟩ := id JR
  obtain ⟨JRbl, JRb0, JRb1, JRb2, JRb3, JRbf0, JRbf1, JRbf2, JRbf3⟩ := id JRb
  have lb := B.size
  go_wp2_with fail
  refine (X3.out _).mono ?_
  rintro e w1 ⟨rfl, z⟩
  clear JX0 JX1 JX2 JX3 JXl JY0 JY1 JY2 JY3 JYl JR0 JR1 JR2 JR3 JRl JRf0 JRf1 JRf2 JRf3 JRb0 JRb1 JRb2 JRb3 JRbl JRbf0 JRbf1 JRbf2 JRbf3 lb
  replace JX := JX.below z
  replace JY := JY.below z
  replace JR := JR.below z
  replace JRb := JRb.below z
  replace B := below_next B z
  clear z
  obtain ⟨JXl, JX0, JX1, JX2, JX3⟩ := JX.k
  obtain ⟨JYl, JY0, JY1, JY2, JY3⟩ := JY.k
  obtain ⟨JRl, JR0, JR1, JR2, JR3, JRf0, JRf1, JRf2, JRf3⟩ := id JR
  obtain ⟨JRbl, JRb0, JRb1, JRb2, JRb3, JRbf0, JRbf1, JRbf2, JRbf3⟩ := id JRb
  have lb := B.size
  go_wp2
  exact bodyPost_ret (v := .tuple #[sv R.1, sv R.2.1, .bool R.2.2]) (by simp [results, Tryz.results62, go_sem, JX0, JX1, JX2, JX3, JXl, JY0, JY1, JY2, JY3, JYl, JR0, JR1, JR2, JR3, JRl, JRb0, JRb1, JRb2, JRb3, JRbl]; try first | rfl | exact ⟨rfl, rfl⟩) rfl ⟨rfl, putS_below R.2.1 (putS_below R.1 B (by omega)) (by omega)⟩
set_option maxHeartbeats 8000000 in
theorem cTold_n_3 (op u : Int) (a b : Sc) (hu : unsI op = u) (h4 : (u == 4) = false) (hq : oppI u = 3) (w : World) : Calls Tryz.prog 62 #[.int .i64 op, sv a, sv b, .bool false] w fun e w' => e = .returned (tri (abvT a b 0#64)) ∧ Below w.heap.size w w' := by
  have X1 := fun W => cUns_any op W
  rw [hu] at X1
  have X2 := fun W => cOpp_any u W
  rw [hq] at X2
  replace X2 := hid X2
  have X3 : ∀ W, Calls Tryz.prog 96 #[sv a, sv b, .int .u64 0] W fun e w' => e = .returned (tri (abvT a b 0#64)) ∧ Below W.heap.size W w' := fun W => cAbove_any a b 0#64 W
  generalize abvT a b 0#64 = R at *
  clear hu hq
  obtain ⟨⟨v, m⟩, l, h⟩ := a
  obtain ⟨⟨v', m'⟩, l', h'⟩ := b
  unfold tri at X3
  unfold tri
  unfold sv at X3 ⊢
  dsimp only at X3 ⊢
  replace X1 := hid X1
  replace X3 := hid X3
  go_enter Tryz.func62, Tryz.ntmps62
  go_wp2_with fail
  have JX : SC ((((w.alloc (.cells #[.int .u64 (ub v), .int .u64 (ub m), .int .u64 (ub l), .int .u64 (ub h)] 28)).alloc (.cells #[.int .u64 (ub v'), .int .u64 (ub m'), .int .u64 (ub l'), .int .u64 (ub h')] 28)).alloc (.cells #[.int .u64 0, .int .u64 0, .int .u64 0, .int .u64 0] 28)).alloc (.cells #[.int .u64 0, .int .u64 0, .int .u64 0, .int .u64 0] 28)) (w.heap.size) ((v, m), l, h) := ((((SC.new (x := ((v, m), l, h)) rfl).alloc _).alloc _).alloc _)
  have JY : SC ((((w.alloc (.cells #[.int .u64 (ub v), .int .u64 (ub m), .int .u64 (ub l), .int .u64 (ub h)] 28)).alloc (.cells #[.int .u64 (ub v'), .int .u64 (ub m'), .int .u64 (ub l'), .int .u64 (ub h')] 28)).alloc (.cells #[.int .u64 0, .int .u64 0, .int .u64 0, .int .u64 0] 28)).alloc (.cells #[.int .u64 0, .int .u64 0, .int .u64 0, .int .u64 0] 28)) (w.heap.size + 1) ((v', m'), l', h') := (((SC.new (x := ((v', m'), l', h')) (by simp)).alloc _).alloc _)
  have JR : SC ((((w.alloc (.cells #[.int .u64 (ub v), .int .u64 (ub m), .int .u64 (ub l), .int .u64 (ub h)] 28)).alloc (.cells #[.int .u64 (ub v'), .int .u64 (ub m'), .int .u64 (ub l'), .int .u64 (ub h')] 28)).alloc (.cells #[.int .u64 0, .int .u64 0, .int .u64 0, .int .u64 0] 28)).alloc (.cells #[.int .u64 0, .int .u64 0, .int .u64 0, .int .u64 0] 28)) (w.heap.size + 1 + 1) sc0 := ((SC.new (x := sc0) (by simp)).alloc _)
  have JRb : SC ((((w.alloc (.cells #[.int .u64 (ub v), .int .u64 (ub m), .int .u64 (ub l), .int .u64 (ub h)] 28)).alloc (.cells #[.int .u64 (ub v'), .int .u64 (ub m'), .int .u64 (ub l'), .int .u64 (ub h')] 28)).alloc (.cells #[.int .u64 0, .int .u64 0, .int .u64 0, .int .u64 0] 28)).alloc (.cells #[.int .u64 0, .int .u64 0, .int .u64 0, .int .u64 0] 28)) (w.heap.size + 1 + 1 + 1) sc0 := (SC.new (x := sc0) (by simp))
  have B : Below w.heap.size w ((((w.alloc (.cells #[.int .u64 (ub v), .int .u64 (ub m), .int .u64 (ub l), .int .u64 (ub h)] 28)).alloc (.cells #[.int .u64 (ub v'), .int .u64 (ub m'), .int .u64 (ub l'), .int .u64 (ub h')] 28)).alloc (.cells #[.int .u64 0, .int .u64 0, .int .u64 0, .int .u64 0] 28)).alloc (.cells #[.int .u64 0, .int .u64 0, .int .u64 0, .int .u64 0] 28)) := (bel_alloc (bel_alloc (bel_alloc (bel_alloc (Below.refl _ _)))))
  generalize ((((w.alloc (.cells #[.int .u64 (ub v), .int .u64 (ub m), .int .u64 (ub l), .int .u64 (ub h)] 28)).alloc (.cells #[.int .u64 (ub v'), .int .u64 (ub m'), .int .u64 (ub l'), .int .u64 (ub h')] 28)).alloc (.cells #[.int .u64 0, .int .u64 0, .int .u64 0, .int .u64 0] 28)).alloc (.cells #[.int .u64 0, .int .u64 0, .int .u64 0, .int .u64 0] 28)) = w00 at *
  obtain ⟨JXl, JX0, JX1, JX2, JX3⟩ := JX.k
  obtain ⟨JYl, JY0, JY1, JY2, JY3⟩ := JY.k
  obtain ⟨JRl, JR0, JR1, JR2, JR3, JRf0, JRf1, JRf2, JRf3⟩ := id JR
  obtain ⟨JRbl, JRb0, JRb1, JRb2, JRb3, JRbf0, JRbf1, JRbf2, JRbf3⟩ := id JRb
  have lb := B.size
  go_wp2_with fail
  refine (X1.out _).mono ?_
  rintro e w_ ⟨rfl, rfl⟩
  clear JX0 JX1 JX2 JX3 JXl JY0 JY1 JY2 JY3 JYl JR0 JR1 JR2 JR3 JRl JRf0 JRf1 JRf2 JRf3 JRb0 JRb1 JRb2 JRb3 JRbl JRbf0 JRbf1 JRbf2 JRbf3 lb
  obtain ⟨JXl, JX0, JX1, JX2, JX3⟩ := JX.k
  obtain ⟨JYl, JY0, JY1, JY2, JY3⟩ := JY.k
  obtain ⟨JRl, JR0, JR1, JR2, JR3, JRf0, JRf1, JRf2, JRf3⟩ := id JR
  obtain ⟨JRbl, JRb0, JRb1, JRb2, JRb3, JRbf0, JRbf1, JRbf2, JRbf3⟩ := id JRb
  have lb := B.size
  go_wp2_with fail
  refine (X2.out _).mono ?_
  rintro e w_ ⟨rfl, rfl⟩
  clear JX0 JX1 JX2 JX3 JXl JY0 JY1 JY2 JY3 JYl JR0 JR1 JR2 JR3 JRl JRf0 JRf1 JRf2 JRf3 JRb0 JRb1 JRb2 JRb3 JRbl JRbf0 JRbf1 JRbf2 JRbf3 lb
  obtain ⟨JXl, JX0, JX1, JX2, JX3⟩ := JX.k
  obtain ⟨JYl, JY0, JY1, JY2, JY3⟩ := JY.k
  obtain ⟨JRl, JR0, JR1, JR2, JR3, JRf0, JRf1, JRf2, JRf3⟩ := id JR
  obtain ⟨JRbl, JRb0, JRb1, JRb2, JRb3, JRbf0, JRbf1, JRbf2, JRbf3⟩ := id JRb
  have lb := B.size
  go_wp2_with fail
  refine (X3.out _).mono ?_
  rintro e w1 ⟨rfl, z⟩
  clear JX0 JX1 JX2 JX3 JXl JY0 JY1 JY2 JY3 JYl JR0 JR1 JR2 JR3 JRl JRf0 JRf1 JRf2 JRf3 JRb0 JRb1 JRb2 JRb3 JRbl JRbf0 JRbf1 JRbf2 JRbf3 lb
  replace JX := JX.below z
  replace JY := JY.below z
  replace JR := JR.below z
  replace JRb := JRb.below z
  replace B := below_next B z
  clear z
  obtain ⟨JXl, JX0, JX1, JX2, JX3⟩ := JX.k
  obtain ⟨JYl, JY0, JY1, JY2, JY3⟩ := JY.k
  obtain ⟨JRl, JR0, JR1, JR2, JR3, JRf0, JRf1, JRf2, JRf3⟩ := id JR
  obtain ⟨JRbl, JRb0, JRb1, JRb2, JRb3, JRbf0, JRbf1, JRbf2, JRbf3⟩ := id JRb
  have lb := B.size
  go_wp2
  exact bodyPost_ret (v := .tuple #[sv R.1, sv R.2.1, .bool R.2.2]) (by simp [results, Tryz.results62, go_sem, JX0, JX1, JX2, JX3, JXl, JY0, JY1, JY2, JY3, JYl, JR0, JR1, JR2, JR3, JRl, JRb0, JRb1, JRb2, JRb3, JRbl]; try first | rfl | exact ⟨rfl, rfl⟩) rfl ⟨rfl, putS_below R.2.1 (putS_below R.1 B (by omega)) (by omega)⟩
set_option maxHeartbeats 8000000 in
theorem cTold_n_10 (op u : Int) (a b : Sc) (hu : unsI op = u) (h4 : (u == 4) = false) (hq : oppI u = 10) (w : World) : Calls Tryz.prog 62 #[.int .i64 op, sv a, sv b, .bool false] w fun e w' => e = .returned (tri (swp (abvT b a 1#64))) ∧ Below w.heap.size w w' := by
  have X1 := fun W => cUns_any op W
  rw [hu] at X1
  have X2 := fun W => cOpp_any u W
  rw [hq] at X2
  replace X2 := hid X2
  have X3 : ∀ W, Calls Tryz.prog 96 #[sv b, sv a, .int .u64 1] W fun e w' => e = .returned (tri (abvT b a 1#64)) ∧ Below W.heap.size W w' := fun W => cAbove_any b a 1#64 W
  generalize abvT b a 1#64 = R at *
  clear hu hq
  obtain ⟨⟨v, m⟩, l, h⟩ := a
  obtain ⟨⟨v', m'⟩, l', h'⟩ := b
  unfold tri at X3
  unfold tri swp
  unfold sv at X3 ⊢
  dsimp only at X3 ⊢
  replace X1 := hid X1
  replace X3 := hid X3
  go_enter Tryz.func62, Tryz.ntmps62
  go_wp2_with fail
  have JX : SC ((((w.alloc (.cells #[.int .u64 (ub v), .int .u64 (ub m), .int .u64 (ub l), .int .u64 (ub h)] 28)).alloc (.cells #[.int .u64 (ub v'), .int .u64 (ub m'), .int .u64 (ub l'), .int .u64 (ub h')] 28)).alloc (.cells #[.int .u64 0, .int .u64 0, .int .u64 0, .int .u64 0] 28)).alloc (.cells #[.int .u64 0, .int .u64 0, .int .u64 0, .int .u64 0] 28)) (w.heap.size) ((v, m), l, h) := ((((SC.new (x := ((v, m), l, h)) rfl).alloc _).alloc _).alloc _)
  have JY : SC ((((w.alloc (.cells #[.int .u64 (ub v), .int .u64 (ub m), .int .u64 (ub l), .int .u64 (ub h)] 28)).alloc (.cells #[.int .u64 (ub v'), .int .u64 (ub m'), .int .u64 (ub l'), .int .u64 (ub h')] 28)).alloc (.cells #[.int .u64 0, .int .u64 0, .int .u64 0, .int .u64 0] 28)).alloc (.cells #[.int .u64 0, .int .u64 0, .int .u64 0, .int .u64 0] 28)) (w.heap.size + 1) ((v', m'), l', h') := (((SC.new (x := ((v', m'), l', h')) (by simp)).alloc _).alloc _)
  have JR : SC ((((w.alloc (.cells #[.int .u64 (ub v), .int .u64 (ub m), .int .u64 (ub l), .int .u64 (ub h)] 28)).alloc (.cells #[.int .u64 (ub v'), .int .u64 (ub m'), .int .u64 (ub l'), .int .u64 (ub h')] 28)).alloc (.cells #[.int .u64 0, .int .u64 0, .int .u64 0, .int .u64 0] 28)).alloc (.cells #[.int .u64 0, .int .u64 0, .int .u64 0, .int .u64 0] 28)) (w.heap.size + 1 + 1) sc0 := ((SC.new (x := sc0) (by simp)).alloc _)
  have JRb : SC ((((w.alloc (.cells #[.int .u64 (ub v), .int .u64 (ub m), .int .u64 (ub l), .int .u64 (ub h)] 28)).alloc (.cells #[.int .u64 (ub v'), .int .u64 (ub m'), .int .u64 (ub l'), .int .u64 (ub h')] 28)).alloc (.cells #[.int .u64 0, .int .u64 0, .int .u64 0, .int .u64 0] 28)).alloc (.cells #[.int .u64 0, .int .u64 0, .int .u64 0, .int .u64 0] 28)) (w.heap.size + 1 + 1 + 1) sc0 := (SC.new (x := sc0) (by simp))
  have B : Below w.heap.size w ((((w.alloc (.cells #[.int .u64 (ub v), .int .u64 (ub m), .int .u64 (ub l), .int .u64 (ub h)] 28)).alloc (.cells #[.int .u64 (ub v'), .int .u64 (ub m'), .int .u64 (ub l'), .int .u64 (ub h')] 28)).alloc (.cells #[.int .u64 0, .int .u64 0, .int .u64 0, .int .u64 0] 28)).alloc (.cells #[.int .u64 0, .int .u64 0, .int .u64 0, .int .u64 0] 28)) := (bel_alloc (bel_alloc (bel_alloc (bel_alloc (Below.refl _ _)))))
  generalize ((((w.alloc (.cells #[.int .u64 (ub v), .int .u64 (ub m), .int .u64 (ub l), .int .u64 (ub h)] 28)).alloc (.cells #[.int .u64 (ub v'), .int .u64 (ub m'), .int .u64 (ub l'), .int .u64 (ub h')] 28)).alloc (.cells #[.int .u64 0, .int .u64 0, .int .u64 0, .int .u64 0] 28)).alloc (.cells #[.int .u64 0, .int .u64 0, .int .u64 0, .int .u64 0] 28)) = w00 at *
  obtain ⟨JXl, JX0, JX1, JX2, JX3⟩ := JX.k
  obtain ⟨JYl, JY0, JY1, JY2, JY3⟩ := JY.k
  obtain ⟨JRl, JR0, JR1, JR2, JR3, JRf0, JRf1, JRf2, JRf3⟩ := id JR
  obtain ⟨JRbl, JRb0, JRb1, JRb2, JRb3, JRbf0, JRbf1, JRbf2, JRbf3⟩ := id JRb
  have lb := B.size
  go_wp2_with fail
  refine (X1.out _).mono ?_
  rintro e w_ ⟨rfl, rfl⟩
  clear JX0 JX1 JX2 JX3 JXl JY0 JY1 JY2 JY3 JYl JR0 JR1 JR2 JR3 JRl JRf0 JRf1 JRf2 JRf3 JRb0 JRb1 JRb2 JRb3 JRbl JRbf0 JRbf1 JRbf2 JRbf3 lb
  obtain ⟨JXl, JX0, JX1, JX2, JX3⟩ := JX.k
  obtain ⟨JYl, JY0, JY1, JY2, JY3⟩ := JY.k
  obtain ⟨JRl, JR0, JR1, JR2, JR3, JRf0, JRf1, JRf2, JRf3⟩ := id JR
  obtain ⟨JRbl, JRb0, JRb1, JRb2, JRb3, JRbf0, JRbf1, JRbf2, JRbf3⟩ := id JRb
  have lb := B.size
  go_wp2_with fail
  refine (X2.out _).mono ?_
  rintro e w_ ⟨rfl, rfl⟩
  clear JX0 JX1 JX2 JX3 JXl JY0 JY1 JY2 JY3 JYl JR0 JR1 JR2 JR3 JRl JRf0 JRf1 JRf2 JRf3 JRb0 JRb1 JRb2 JRb3 JRbl JRbf0 JRbf1 JRbf2 JRbf3 lb
  obtain ⟨JXl, JX0, JX1, JX2, JX3⟩ := JX.k
  obtain ⟨JYl, JY0, JY1, JY2, JY3⟩ := JY.k
  obtain ⟨JRl, JR0, JR1, JR2, JR3, JRf0, JRf1, JRf2, JRf3⟩ := id JR
  obtain ⟨JRbl, JRb0, JRb1, JRb2, JRb3, JRbf0, JRbf1, JRbf2, JRbf3⟩ := id JRb
  have lb := B.size
  go_wp2_with fail
  refine (X3.out _).mono ?_
  rintro e w1 ⟨rfl, z⟩
  clear JX0 JX1 JX2 JX3 JXl JY0 JY1 JY2 JY3 JYl JR0 JR1 JR2 JR3 JRl JRf0 JRf1 JRf2 JRf3 JRb0 JRb1 JRb2 JRb3 JRbl JRbf0 JRbf1 JRbf2 JRbf3 lb
  replace JX := JX.below z
  replace JY := JY.below z
  replace JR := JR.below z
  replace JRb := JRb.below z
  replace B := below_next B z
  clear z
  obtain ⟨JXl, JX0, JX1, JX2, JX3⟩ := JX.k
  obtain ⟨JYl, JY0, JY1, JY2, JY3⟩ := JY.k
  obtain ⟨JRl, JR0, JR1, JR2, JR3, JRf0, JRf1, JRf2, JRf3⟩ := id JR
  obtain ⟨JRbl, JRb0, JRb1, JRb2, JRb3, JRbf0, JRbf1, JRbf2, JRbf3⟩ := id JRb
  have lb := B.size
  go_wp2_with fail
  clear JX0 JX1 JX2 JX3 JXl JY0 JY1 JY2 JY3 JYl JR0 JR1 JR2 JR3 JRl JRf0 JRf1 JRf2 JRf3 JRb0 JRb1 JRb2 JRb3 JRbl JRbf0 JRbf1 JRbf2 JRbf3 lb
  have JM : SC ((w1.alloc (.cells #[.int .u64 (ub R.1.1.1), .int .u64 (ub R.1.1.2), .int .u64 (ub R.1.2.1), .int .u64 (ub R.1.2.2)] 28)).alloc (.cells #[.int .u64 (ub R.2.1.1.1), .int .u64 (ub R.2.1.1.2), .int .u64 (ub R.2.1.2.1), .int .u64 (ub R.2.1.2.2)] 28)) (w1.heap.size) R.1 := ((SC.new (x := R.1) rfl).alloc _)
  have JN : SC ((w1.alloc (.cells #[.int .u64 (ub R.1.1.1), .int .u64 (ub R.1.1.2), .int .u64 (ub R.1.2.1), .int .u64 (ub R.1.2.2)] 28)).alloc (.cells #[.int .u64 (ub R.2.1.1.1), .int .u64 (ub R.2.1.1.2), .int .u64 (ub R.2.1.2.1), .int .u64 (ub R.2.1.2.2)] 28)) (w1.heap.size + 1) R.2.1 := (SC.new (x := R.2.1) (by simp))
  have gq1JX : w.heap.size < w1.heap.size := JX.lt
  replace JX := ((JX.alloc (.cells #[.int .u64 (ub R.1.1.1), .int .u64 (ub R.1.1.2), .int .u64 (ub R.1.2.1), .int .u64 (ub R.1.2.2)] 28)).alloc (.cells #[.int .u64 (ub R.2.1.1.1), .int .u64 (ub R.2.1.1.2), .int .u64 (ub R.2.1.2.1), .int .u64 (ub R.2.1.2.2)] 28))
  have gq1JY : w.heap.size + 1 < w1.heap.size := JY.lt
  replace JY := ((JY.alloc (.cells #[.int .u64 (ub R.1.1.1), .int .u64 (ub R.1.1.2), .int .u64 (ub R.1.2.1), .int .u64 (ub R.1.2.2)] 28)).alloc (.cells #[.int .u64 (ub R.2.1.1.1), .int .u64 (ub R.2.1.1.2), .int .u64 (ub R.2.1.2.1), .int .u64 (ub R.2.1.2.2)] 28))
  have gq1JR : w.heap.size + 1 + 1 < w1.heap.size := JR.lt
  replace JR := ((JR.alloc (.cells #[.int .u64 (ub R.1.1.1), .int .u64 (ub R.1.1.2), .int .u64 (ub R.1.2.1), .int .u64 (ub R.1.2.2)] 28)).alloc (.cells #[.int .u64 (ub R.2.1.1.1), .int .u64 (ub R.2.1.1.2), .int .u64 (ub R.2.1.2.1), .int .u64 (ub R.2.1.2.2)] 28))
  have gq1JRb : w.heap.size + 1 + 1 + 1 < w1.heap.size := JRb.lt
  replace JRb := ((JRb.alloc (.cells #[.int .u64 (ub R.1.1.1), .int .u64 (ub R.1.1.2), .int .u64 (ub R.1.2.1), .int .u64 (ub R.1.2.2)] 28)).alloc (.cells #[.int .u64 (ub R.2.1.1.1), .int .u64 (ub R.2.1.1.2), .int .u64 (ub R.2.1.2.1), .int .u64 (ub R.2.1.2.2)] 28))
  replace B := (bel_alloc (o := (.cells #[.int .u64 (ub R.2.1.1.1), .int .u64 (ub R.2.1.1.2), .int .u64 (ub R.2.1.2.1), .int .u64 (ub R.2.1.2.2)] 28)) (bel_alloc (o := (.cells #[.int .u64 (ub R.1.1.1), .int .u64 (ub R.1.1.2), .int .u64 (ub R.1.2.1), .int .u64 (ub R.1.2.2)] 28)) B))
  generalize ((w1.alloc (.cells #[.int .u64 (ub R.1.1.1), .int .u64 (ub R.1.1.2), .int .u64 (ub R.1.2.1), .int .u64 (ub R.1.2.2)] 28)).alloc (.cells #[.int .u64 (ub R.2.1.1.1), .int .u64 (ub R.2.1.1.2), .int .u64 (ub R.2.1.2.1), .int .u64 (ub R.2.1.2.2)] 28)) = w2 at *
  obtain ⟨JXl, JX0, JX1, JX2, JX3⟩ := JX.k
  obtain ⟨JYl, JY0, JY1, JY2, JY3⟩ := JY.k
  obtain ⟨JRl, JR0, JR1, JR2, JR3, JRf0, JRf1, JRf2, JRf3⟩ := id JR
  obtain ⟨JRbl, JRb0, JRb1, JRb2, JRb3, JRbf0, JRbf1, JRbf2, JRbf3⟩ := id JRb
  obtain ⟨JMl, JM0, JM1, JM2, JM3⟩ := JM.k
  obtain ⟨JNl, JN0, JN1, JN2, JN3⟩ := JN.k
  have lb := B.size
  go_wp2_with fail
  clear JX0 JX1 JX2 JX3 JXl JY0 JY1 JY2 JY3 JYl JR0 JR1 JR2 JR3 JRl JRf0 JRf1 JRf2 JRf3 JRb0 JRb1 JRb2 JRb3 JRbl JRbf0 JRbf1 JRbf2 JRbf3 JM0 JM1 JM2 JM3 JMl JN0 JN1 JN2 JN3 JNl lb
  obtain ⟨JXdl, JXd0, JXd1, JXd2, JXd3, JXdf0, JXdf1, JXdf2, JXdf3⟩ := id JX
  obtain ⟨JYdl, JYd0, JYd1, JYd2, JYd3, JYdf0, JYdf1, JYdf2, JYdf3⟩ := id JY
  obtain ⟨JRdl, JRd0, JRd1, JRd2, JRd3, JRdf0, JRdf1, JRdf2, JRdf3⟩ := id JR
  obtain ⟨JRbdl, JRbd0, JRbd1, JRbd2, JRbd3, JRbdf0, JRbdf1, JRbdf2, JRbdf3⟩ := id JRb
  obtain ⟨JMdl, JMd0, JMd1, JMd2, JMd3, JMdf0, JMdf1, JMdf2, JMdf3⟩ := id JM
  obtain ⟨JNdl, JNd0, JNd1, JNd2, JNd3, JNdf0, JNdf1, JNdf2, JNdf3⟩ := id JN
  have ld := B.size
  apply cutF (F := fun W' => SC W' (w.heap.size) ((v, m), l, h) ∧ SC W' (w.heap.size + 1) ((v', m'), l', h') ∧ SC W' (w.heap.size + 1 + 1) (R.2.1) ∧ SC W' (w.heap.size + 1 + 1 + 1) (R.1) ∧ SC W' (w1.heap.size) R.1 ∧ SC W' (w1.heap.size + 1) R.2.1 ∧ Below w.heap.size w W')
  · go_region
    all_goals exact ⟨⟨(((JX.other (c := w.heap.size + 1 + 1) (by omega) (R.2.1)).other (c := w.heap.size + 1 + 1 + 1) (by omega) (R.1)).below (below_dr _)), (((JY.other (c := w.heap.size + 1 + 1) (by omega) (R.2.1)).other (c := w.heap.size + 1 + 1 + 1) (by omega) (R.1)).below (below_dr _)), (((JR.put (R.2.1)).other (c := w.heap.size + 1 + 1 + 1) (by omega) (R.1)).below (below_dr _)), (((JRb.other (c := w.heap.size + 1 + 1) (by omega) (R.2.1)).put (R.1)).below (below_dr _)), (((JM.other (c := w.heap.size + 1 + 1) (by omega) (R.2.1)).other (c := w.heap.size + 1 + 1 + 1) (by omega) (R.1)).below (below_dr _)), (((JN.other (c := w.heap.size + 1 + 1) (by omega) (R.2.1)).other (c := w.heap.size + 1 + 1 + 1) (by omega) (R.1)).below (below_dr _)), below_next (putS_below (R.1) (putS_below (R.2.1) B (by omega : w.heap.size ≤ w.heap.size + 1 + 1)) (by omega : w.heap.size ≤ w.heap.size + 1 + 1 + 1)) (below_dr _)⟩, rfl⟩
  clear JXd0 JXd1 JXd2 JXd3 JXdl JXdf0 JXdf1 JXdf2 JXdf3 JYd0 JYd1 JYd2 JYd3 JYdl JYdf0 JYdf1 JYdf2 JYdf3 JRd0 JRd1 JRd2 JRd3 JRdl JRdf0 JRdf1 JRdf2 JRdf3 JRbd0 JRbd1 JRbd2 JRbd3 JRbdl JRbdf0 JRbdf1 JRbdf2 JRbdf3 JMd0 JMd1 JMd2 JMd3 JMdl JMdf0 JMdf1 JMdf2 JMdf3 JNd0 JNd1 JNd2 JNd3 JNdl JNdf0 JNdf1 JNdf2 JNdf3 ld
  clear JX JY JR JRb JM JN B
  intro w3 ⟨JX, JY, JR, JRb, JM, JN, B⟩
  obtain ⟨JXl, JX0, JX1, JX2, JX3⟩ := JX.k
  obtain ⟨JYl, JY0, JY1, JY2, JY3⟩ := JY.k
  obtain ⟨JRl, JR0, JR1, JR2, JR3, JRf0, JRf1, JRf2, JRf3⟩ := id JR
  obtain ⟨JRbl, JRb0, JRb1, JRb2, JRb3, JRbf0, JRbf1, JRbf2, JRbf3⟩ := id JRb
  obtain ⟨JMl, JM0, JM1, JM2, JM3⟩ := JM.k
  obtain ⟨JNl, JN0, JN1, JN2, JN3⟩ := JN.k
  have lb := B.size
  go_wp2
  exact bodyPost_ret (v := .tuple #[sv R.2.1, sv R.1, .bool R.2.2]) (by simp [results, Tryz.results62, go_sem, JX0, JX1, JX2, JX3, JXl, JY0, JY1, JY2, JY3, JYl, JR0, JR1, JR2, JR3, JRl, JRb0, JRb1, JRb2, JRb3, JRbl, JM0, JM1, JM2, JM3, JMl, JN0, JN1, JN2, JN3, JNl]; try first | rfl | exact ⟨rfl, rfl⟩) rfl ⟨rfl, B⟩
set_option maxHeartbeats 8000000 in
theorem cTold_n_r (op u q : Int) (a b : Sc) (hu : unsI op = u) (h4 : (u == 4) = false) (hq : oppI u = q) (e1 : (q == 1) = false) (e5 : (q == 5) = false) (e2 : (q == 2) = false) (e3 : (q == 3) = false) (e10 : (q == 10) = false) (w : World) : Calls Tryz.prog 62 #[.int .i64 op, sv a, sv b, .bool false] w fun e w' => e = .returned (tri (swp (abvT b a 0#64))) ∧ Below w.heap.size w w' := by
  have X1 := fun W => cUns_any op W
  rw [hu] at X1
  have X2 := fun W => cOpp_any u W
  rw [hq] at X2
  replace X2 := hid X2
  have X3 : ∀ W, Calls Tryz.prog 96 #[sv b, sv a, .int .u64 0] W fun e w' => e = .returned (tri (abvT b a 0#64)) ∧ Below W.heap.size W w' := fun W => cAbove_any b a 0#64 W
  generalize abvT b a 0#64 = R at *
  clear hu hq
  obtain ⟨⟨v, m⟩, l, h⟩ := a
  obtain ⟨⟨v', m'⟩, l', h'⟩ := b
  unfold tri at X3
  unfold tri swp
  unfold sv at X3 ⊢
  dsimp only at X3 ⊢
  replace X1 := hid X1
  replace X3 := hid X3
  go_enter Tryz.func62, Tryz.ntmps62
  go_wp2_with fail
  have JX : SC ((((w.alloc (.cells #[.int .u64 (ub v), .int .u64 (ub m), .int .u64 (ub l), .int .u64 (ub h)] 28)).alloc (.cells #[.int .u64 (ub v'), .int .u64 (ub m'), .int .u64 (ub l'), .int .u64 (ub h')] 28)).alloc (.cells #[.int .u64 0, .int .u64 0, .int .u64 0, .int .u64 0] 28)).alloc (.cells #[.int .u64 0, .int .u64 0, .int .u64 0, .int .u64 0] 28)) (w.heap.size) ((v, m), l, h) := ((((SC.new (x := ((v, m), l, h)) rfl).alloc _).alloc _).alloc _)
  have JY : SC ((((w.alloc (.cells #[.int .u64 (ub v), .int .u64 (ub m), .int .u64 (ub l), .int .u64 (ub h)] 28)).alloc (.cells #[.int .u64 (ub v'), .int .u64 (ub m'), .int .u64 (ub l'), .int .u64 (ub h')] 28)).alloc (.cells #[.int .u64 0, .int .u64 0, .int .u64 0, .int .u64 0] 28)).alloc (.cells #[.int .u64 0, .int .u64 0, .int .u64 0, .int .u64 0] 28)) (w.heap.size + 1) ((v', m'), l', h') := (((SC.new (x := ((v', m'), l', h')) (by simp)).alloc _).alloc _)
  have JR : SC ((((w.alloc (.cells #[.int .u64 (ub v), .int .u64 (ub m), .int .u64 (ub l), .int .u64 (ub h)] 28)).alloc (.cells #[.int .u64 (ub v'), .int .u64 (ub m'), .int .u64 (ub l'), .int .u64 (ub h')] 28)).alloc (.cells #[.int .u64 0, .int .u64 0, .int .u64 0, .int .u64 0] 28)).alloc (.cells #[.int .u64 0, .int .u64 0, .int .u64 0, .int .u64 0] 28)) (w.heap.size + 1 + 1) sc0 := ((SC.new (x := sc0) (by simp)).alloc _)
  have JRb : SC ((((w.alloc (.cells #[.int .u64 (ub v), .int .u64 (ub m), .int .u64 (ub l), .int .u64 (ub h)] 28)).alloc (.cells #[.int .u64 (ub v'), .int .u64 (ub m'), .int .u64 (ub l'), .int .u64 (ub h')] 28)).alloc (.cells #[.int .u64 0, .int .u64 0, .int .u64 0, .int .u64 0] 28)).alloc (.cells #[.int .u64 0, .int .u64 0, .int .u64 0, .int .u64 0] 28)) (w.heap.size + 1 + 1 + 1) sc0 := (SC.new (x := sc0) (by simp))
  have B : Below w.heap.size w ((((w.alloc (.cells #[.int .u64 (ub v), .int .u64 (ub m), .int .u64 (ub l), .int .u64 (ub h)] 28)).alloc (.cells #[.int .u64 (ub v'), .int .u64 (ub m'), .int .u64 (ub l'), .int .u64 (ub h')] 28)).alloc (.cells #[.int .u64 0, .int .u64 0, .int .u64 0, .int .u64 0] 28)).alloc (.cells #[.int .u64 0, .int .u64 0, .int .u64 0, .int .u64 0] 28)) := (bel_alloc (bel_alloc (bel_alloc (bel_alloc (Below.refl _ _)))))
  generalize ((((w.alloc (.cells #[.int .u64 (ub v), .int .u64 (ub m), .int .u64 (ub l), .int .u64 (ub h)] 28)).alloc (.cells #[.int .u64 (ub v'), .int .u64 (ub m'), .int .u64 (ub l'), .int .u64 (ub h')] 28)).alloc (.cells #[.int .u64 0, .int .u64 0, .int .u64 0, .int .u64 0] 28)).alloc (.cells #[.int .u64 0, .int .u64 0, .int .u64 0, .int .u64 0] 28)) = w00 at *
  obtain ⟨JXl, JX0, JX1, JX2, JX3⟩ := JX.k
  obtain ⟨JYl, JY0, JY1, JY2, JY3⟩ := JY.k
  obtain ⟨JRl, JR0, JR1, JR2, JR3, JRf0, JRf1, JRf2, JRf3⟩ := id JR
  obtain ⟨JRbl, JRb0, JRb1, JRb2, JRb3, JRbf0, JRbf1, JRbf2, JRbf3⟩ := id JRb
  have lb := B.size
  go_wp2_with fail
  refine (X1.out _).mono ?_
  rintro e w_ ⟨rfl, rfl⟩
  clear JX0 JX1 JX2 JX3 JXl JY0 JY1 JY2 JY3 JYl JR0 JR1 JR2 JR3 JRl JRf0 JRf1 JRf2 JRf3 JRb0 JRb1 JRb2 JRb3 JRbl JRbf0 JRbf1 JRbf2 JRbf3 lb
  obtain ⟨JXl, JX0, JX1, JX2, JX3⟩ := JX.k
  obtain ⟨JYl, JY0, JY1, JY2, JY3⟩ := JY.k
  obtain ⟨JRl, JR0, JR1, JR2, JR3, JRf0, JRf1, JRf2, JRf3⟩ := id JR
  obtain ⟨JRbl, JRb0, JRb1, JRb2, JRb3, JRbf0, JRbf1, JRbf2, JRbf3⟩ := id JRb
  have lb := B.size
  go_wp2_with fail
  refine (X2.out _).mono ?_
  rintro e w_ ⟨rfl, rfl⟩
  clear JX0 JX1 JX2 JX3 JXl JY0 JY1 JY2 JY3 JYl JR0 JR1 JR2 JR3 JRl JRf0 JRf1 JRf2 JRf3 JRb0 JRb1 JRb2 JRb3 JRbl JRbf0 JRbf1 JRbf2 JRbf3 lb
  obtain ⟨JXl, JX0, JX1, JX2, JX3⟩ := JX.k
  obtain ⟨JYl, JY0, JY1, JY2, JY3⟩ := JY.k
  obtain ⟨JRl, JR0, JR1, JR2, JR3, JRf0, JRf1, JRf2, JRf3⟩ := id JR
  obtain ⟨JRbl, JRb0, JRb1, JRb2, JRb3, JRbf0, JRbf1, JRbf2, JRbf3⟩ := id JRb
  have lb := B.size
  go_wp2_with fail
  refine (X3.out _).mono ?_
  rintro e w1 ⟨rfl, z⟩
  clear JX0 JX1 JX2 JX3 JXl JY0 JY1 JY2 JY3 JYl JR0 JR1 JR2 JR3 JRl JRf0 JRf1 JRf2 JRf3 JRb0 JRb1 JRb2 JRb3 JRbl JRbf0 JRbf1 JRbf2 JRbf3 lb
  replace JX := JX.below z
  replace JY := JY.below z
  replace JR := JR.below z
  replace JRb := JRb.below z
  replace B := below_next B z
  clear z
  obtain ⟨JXl, JX0, JX1, JX2, JX3⟩ := JX.k
  obtain ⟨JYl, JY0, JY1, JY2, JY3⟩ := JY.k
  obtain ⟨JRl, JR0, JR1, JR2, JR3, JRf0, JRf1, JRf2, JRf3⟩ := id JR
  obtain ⟨JRbl, JRb0, JRb1, JRb2, JRb3, JRbf0, JRbf1, JRbf2, JRbf3⟩ := id JRb
  have lb := B.size
  go_wp2_with fail
  clear JX0 JX1 JX2 JX3 JXl JY0 JY1 JY2 JY3 JYl JR0 JR1 JR2 JR3 JRl JRf0 JRf1 JRf2 JRf3 JRb0 JRb1 JRb2 JRb3 JRbl JRbf0 JRbf1 JRbf2 JRbf3 lb
  have JM : SC ((w1.alloc (.cells #[.int .u64 (ub R.1.1.1), .int .u64 (ub R.1.1.2), .int .u64 (ub R.1.2.1), .int .u64 (ub R.1.2.2)] 28)).alloc (.cells #[.int .u64 (ub R.2.1.1.1), .int .u64 (ub R.2.1.1.2), .int .u64 (ub R.2.1.2.1), .int .u64 (ub R.2.1.2.2)] 28)) (w1.heap.size) R.1 := ((SC.new (x := R.1) rfl).alloc _)
  have JN : SC ((w1.alloc (.cells #[.int .u64 (ub R.1.1.1), .int .u64 (ub R.1.1.2), .int .u64 (ub R.1.2.1), .int .u64 (ub R.1.2.2)] 28)).alloc (.cells #[.int .u64 (ub R.2.1.1.1), .int .u64 (ub R.2.1.1.2), .int .u64 (ub R.2.1.2.1), .int .u64 (ub R.2.1.2.2)] 28)) (w1.heap.size + 1) R.2.1 := (SC.new (x := R.2.1) (by simp))
  have gq1JX : w.heap.size < w1.heap.size := JX.lt
  replace JX := ((JX.alloc (.cells #[.int .u64 (ub R.1.1.1), .int .u64 (ub R.1.1.2), .int .u64 (ub R.1.2.1), .int .u64 (ub R.1.2.2)] 28)).alloc (.cells #[.int .u64 (ub R.2.1.1.1), .int .u64 (ub R.2.1.1.2), .int .u64 (ub R.2.1.2.1), .int .u64 (ub R.2.1.2.2)] 28))
  have gq1JY : w.heap.size + 1 < w1.heap.size := JY.lt
  replace JY := ((JY.alloc (.cells #[.int .u64 (ub R.1.1.1), .int .u64 (ub R.1.1.2), .int .u64 (ub R.1.2.1), .int .u64 (ub R.1.2.2)] 28)).alloc (.cells #[.int .u64 (ub R.2.1.1.1), .int .u64 (ub R.2.1.1.2), .int .u64 (ub R.2.1.2.1), .int .u64 (ub R.2.1.2.2)] 28))
  have gq1JR : w.heap.size + 1 + 1 < w1.heap.size := JR.lt
  replace JR := ((JR.alloc (.cells #[.int .u64 (ub R.1.1.1), .int .u64 (ub R.1.1.2), .int .u64 (ub R.1.2.1), .int .u64 (ub R.1.2.2)] 28)).alloc (.cells #[.int .u64 (ub R.2.1.1.1), .int .u64 (ub R.2.1.1.2), .int .u64 (ub R.2.1.2.1), .int .u64 (ub R.2.1.2.2)] 28))
  have gq1JRb : w.heap.size + 1 + 1 + 1 < w1.heap.size := JRb.lt
  replace JRb := ((JRb.alloc (.cells #[.int .u64 (ub R.1.1.1), .int .u64 (ub R.1.1.2), .int .u64 (ub R.1.2.1), .int .u64 (ub R.1.2.2)] 28)).alloc (.cells #[.int .u64 (ub R.2.1.1.1), .int .u64 (ub R.2.1.1.2), .int .u64 (ub R.2.1.2.1), .int .u64 (ub R.2.1.2.2)] 28))
  replace B := (bel_alloc (o := (.cells #[.int .u64 (ub R.2.1.1.1), .int .u64 (ub R.2.1.1.2), .int .u64 (ub R.2.1.2.1), .int .u64 (ub R.2.1.2.2)] 28)) (bel_alloc (o := (.cells #[.int .u64 (ub R.1.1.1), .int .u64 (ub R.1.1.2), .int .u64 (ub R.1.2.1), .int .u64 (ub R.1.2.2)] 28)) B))
  generalize ((w1.alloc (.cells #[.int .u64 (ub R.1.1.1), .int .u64 (ub R.1.1.2), .int .u64 (ub R.1.2.1), .int .u64 (ub R.1.2.2)] 28)).alloc (.cells #[.int .u64 (ub R.2.1.1.1), .int .u64 (ub R.2.1.1.2), .int .u64 (ub R.2.1.2.1), .int .u64 (ub R.2.1.2.2)] 28)) = w2 at *
  obtain ⟨JXl, JX0, JX1, JX2, JX3⟩ := JX.k
  obtain ⟨JYl, JY0, JY1, JY2, JY3⟩ := JY.k
  obtain ⟨JRl, JR0, JR1, JR2, JR3, JRf0, JRf1, JRf2, JRf3⟩ := id JR
  obtain ⟨JRbl, JRb0, JRb1, JRb2, JRb3, JRbf0, JRbf1, JRbf2, JRbf3⟩ := id JRb
  obtain ⟨JMl, JM0, JM1, JM2, JM3⟩ := JM.k
  obtain ⟨JNl, JN0, JN1, JN2, JN3⟩ := JN.k
  have lb := B.size
  go_wp2_with fail
  clear JX0 JX1 JX2 JX3 JXl JY0 JY1 JY2 JY3 JYl JR0 JR1 JR2 JR3 JRl JRf0 JRf1 JRf2 JRf3 JRb0 JRb1 JRb2 JRb3 JRbl JRbf0 JRbf1 JRbf2 JRbf3 JM0 JM1 JM2 JM3 JMl JN0 JN1 JN2 JN3 JNl lb
  obtain ⟨JXdl, JXd0, JXd1, JXd2, JXd3, JXdf0, JXdf1, JXdf2, JXdf3⟩ := id JX
  obtain ⟨JYdl, JYd0, JYd1, JYd2, JYd3, JYdf0, JYdf1, JYdf2, JYdf3⟩ := id JY
  obtain ⟨JRdl, JRd0, JRd1, JRd2, JRd3, JRdf0, JRdf1, JRdf2, JRdf3⟩ := id JR
  obtain ⟨JRbdl, JRbd0, JRbd1, JRbd2, JRbd3, JRbdf0, JRbdf1, JRbdf2, JRbdf3⟩ := id JRb
  obtain ⟨JMdl, JMd0, JMd1, JMd2, JMd3, JMdf0, JMdf1, JMdf2, JMdf3⟩ := id JM
  obtain ⟨JNdl, JNd0, JNd1, JNd2, JNd3, JNdf0, JNdf1, JNdf2, JNdf3⟩ := id JN
  have ld := B.size
  apply cutF (F := fun W' => SC W' (w.heap.size) ((v, m), l, h) ∧ SC W' (w.heap.size + 1) ((v', m'), l', h') ∧ SC W' (w.heap.size + 1 + 1) (R.2.1) ∧ SC W' (w.heap.size + 1 + 1 + 1) (R.1) ∧ SC W' (w1.heap.size) R.1 ∧ SC W' (w1.heap.size + 1) R.2.1 ∧ Below w.heap.size w W')
  · go_region
    all_goals exact ⟨⟨(((JX.other (c := w.heap.size + 1 + 1) (by omega) (R.2.1)).other (c := w.heap.size + 1 + 1 + 1) (by omega) (R.1)).below (below_dr _)), (((JY.other (c := w.heap.size + 1 + 1) (by omega) (R.2.1)).other (c := w.heap.size + 1 + 1 + 1) (by omega) (R.1)).below (below_dr _)), (((JR.put (R.2.1)).other (c := w.heap.size + 1 + 1 + 1) (by omega) (R.1)).below (below_dr _)), (((JRb.other (c := w.heap.size + 1 + 1) (by omega) (R.2.1)).put (R.1)).below (below_dr _)), (((JM.other (c := w.heap.size + 1 + 1) (by omega) (R.2.1)).other (c := w.heap.size + 1 + 1 + 1) (by omega) (R.1)).below (below_dr _)), (((JN.other (c := w.heap.size + 1 + 1) (by omega) (R.2.1)).other (c := w.heap.size + 1 + 1 + 1) (by omega) (R.1)).below (below_dr _)), below_next (putS_below (R.1) (putS_below (R.2.1) B (by omega : w.heap.size ≤ w.heap.size + 1 + 1)) (by omega : w.heap.size ≤ w.heap.size + 1 + 1 + 1)) (below_dr _)⟩, rfl⟩
  clear JXd0 JXd1 JXd2 JXd3 JXdl JXdf0 JXdf1 JXdf2 JXdf3 JYd0 JYd1 JYd2 JYd3 JYdl JYdf0 JYdf1 JYdf2 JYdf3 JRd0 JRd1 JRd2 JRd3 JRdl JRdf0 JRdf1 JRdf2 JRdf3 JRbd0 JRbd1 JRbd2 JRbd3 JRbdl JRbdf0 JRbdf1 JRbdf2 JRbdf3 JMd0 JMd1 JMd2 JMd3 JMdl JMdf0 JMdf1 JMdf2 JMdf3 JNd0 JNd1 JNd2 JNd3 JNdl JNdf0 JNdf1 JNdf2 JNdf3 ld
  clear JX JY JR JRb JM JN B
  intro w3 ⟨JX, JY, JR, JRb, JM, JN, B⟩
  obtain ⟨JXl, JX0, JX1, JX2, JX3⟩ := JX.k
  obtain ⟨JYl, JY0, JY1, JY2, JY3⟩ := JY.k
  obtain ⟨JRl, JR0, JR1, JR2, JR3, JRf0, JRf1, JRf2, JRf3⟩ := id JR
  obtain ⟨JRbl, JRb0, JRb1, JRb2, JRb3, JRbf0, JRbf1, JRbf2, JRbf3⟩ := id JRb
  obtain ⟨JMl, JM0, JM1, JM2, JM3⟩ := JM.k
  obtain ⟨JNl, JN0, JN1, JN2, JN3⟩ := JN.k
  have lb := B.size
  go_wp2
  exact bodyPost_ret (v := .tuple #[sv R.2.1, sv R.1, .bool R.2.2]) (by simp [results, Tryz.results62, go_sem, JX0, JX1, JX2, JX3, JXl, JY0, JY1, JY2, JY3, JYl, JR0, JR1, JR2, JR3, JRl, JRb0, JRb1, JRb2, JRb3, JRbl, JM0, JM1, JM2, JM3, JMl, JN0, JN1, JN2, JN3, JNl]; try first | rfl | exact ⟨rfl, rfl⟩) rfl ⟨rfl, B⟩
theorem cTold_any (op : Int) (a b : Sc) (k : Bool) (w : World) : Calls Tryz.prog 62 #[.int .i64 op, sv a, sv b, .bool k] w fun e w' => e = .returned (tri (tolT op a b k)) ∧ Below w.heap.size w w' := by
  unfold tolT
  by_cases h4 : unsI op = 4
  · rw [if_pos h4]; exact cTold_set op a b k h4 w
  · rw [if_neg h4]
    have h4' : (unsI op == 4) = false := beq_eq_false_iff_ne.2 h4
    cases k
    · rw [show (if false = true then unsI op else oppI (unsI op)) = oppI (unsI op) from rfl]
      unfold tolQ
      by_cases h1 : oppI (unsI op) = 1
      · rw [if_pos h1]; exact cTold_n_1 op (unsI op) a b rfl h4' h1 w
      rw [if_neg h1]
      by_cases h5 : oppI (unsI op) = 5
      · rw [if_pos h5]; exact cTold_n_5 op (unsI op) a b rfl h4' h5 w
      rw [if_neg h5]
      by_cases h2 : oppI (unsI op) = 2
      · rw [if_pos h2]; exact cTold_n_2 op (unsI op) a b rfl h4' h2 w
      rw [if_neg h2]
      by_cases h3 : oppI (unsI op) = 3
      · rw [if_pos h3]; exact cTold_n_3 op (unsI op) a b rfl h4' h3 w
      rw [if_neg h3]
      by_cases h10 : oppI (unsI op) = 10
      · rw [if_pos h10]; exact cTold_n_10 op (unsI op) a b rfl h4' h10 w
      rw [if_neg h10]
      exact cTold_n_r op (unsI op) (oppI (unsI op)) a b rfl h4' rfl (beq_eq_false_iff_ne.2 h1) (beq_eq_false_iff_ne.2 h5) (beq_eq_false_iff_ne.2 h2) (beq_eq_false_iff_ne.2 h3) (beq_eq_false_iff_ne.2 h10) w
    · rw [show (if true = true then unsI op else oppI (unsI op)) = unsI op from rfl]
      unfold tolQ
      by_cases h1 : unsI op = 1
      · rw [if_pos h1]; exact cTold_y_1 op a b h1 w
      rw [if_neg h1]
      by_cases h5 : unsI op = 5
      · rw [if_pos h5]; exact cTold_y_5 op a b h5 w
      rw [if_neg h5]
      by_cases h2 : unsI op = 2
      · rw [if_pos h2]; exact cTold_y_2 op a b h2 w
      rw [if_neg h2]
      by_cases h3 : unsI op = 3
      · rw [if_pos h3]; exact cTold_y_3 op a b h3 w
      rw [if_neg h3]
      by_cases h10 : unsI op = 10
      · rw [if_pos h10]; exact cTold_y_10 op a b h10 w
      rw [if_neg h10]
      exact cTold_y_r op (unsI op) a b rfl h4' (beq_eq_false_iff_ne.2 h1) (beq_eq_false_iff_ne.2 h5) (beq_eq_false_iff_ne.2 h2) (beq_eq_false_iff_ne.2 h3) (beq_eq_false_iff_ne.2 h10) w
end Go.Proofs.YtodmikjpmcabiaaGreat
